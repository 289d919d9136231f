/- The places in which a number is: PlacesWith of the program and of the model. -/
import Derived.Test.YthookppmclimkaaPlcC
import Derived.Test.YthookppmclimkaaIs
import Derived.Deep.RegionHeld3
namespace Go.Proofs.Ythookppmclimkaa
open Go.RowKit Go.ChangeShapes Go.Sort
set_option linter.unusedVariables false
set_option linter.unusedSimpArgs false

/-- The numbers of a list at which n numbers have the value 0. -/
def plL (n l : Nat) (f : Nat → Int) (R : List Nat) : List Nat := R.filter (fun r => decide (valN f n (r : Int) l = 0))
theorem take_getD {R : List Nat} {k : Nat} (h : k < R.length) : R.take (k + 1) = R.take k ++ [R.getD k 0] := by
  rw [List.take_add_one, List.getD_eq_getElem?_getD, List.getElem?_eq_getElem h]; rfl
theorem plL_yes {n l : Nat} {f : Nat → Int} {R : List Nat} {k : Nat} (h : k < R.length) (hv : valN f n ((R.getD k 0 : Nat) : Int) l = 0) : plL n l f (R.take (k + 1)) = plL n l f (R.take k) ++ [R.getD k 0] := by
  unfold plL; rw [take_getD h, List.filter_append]
  show _ ++ List.filter _ [R.getD k 0] = _
  rw [List.filter_cons_of_pos (by exact decide_eq_true hv)]; rfl
theorem plL_no {n l : Nat} {f : Nat → Int} {R : List Nat} {k : Nat} (h : k < R.length) (hv : ¬ valN f n ((R.getD k 0 : Nat) : Int) l = 0) : plL n l f (R.take (k + 1)) = plL n l f (R.take k) := by
  unfold plL; rw [take_getD h, List.filter_append]
  show _ ++ List.filter _ [R.getD k 0] = _
  rw [List.filter_cons_of_neg (by rw [decide_eq_true_eq]; exact hv)]; simp
theorem plL_len (n l : Nat) (f : Nat → Int) (R : List Nat) : (plL n l f R).length ≤ R.length := List.length_filter_le _ _
theorem plL_inR {n l N : Nat} {f : Nat → Int} {R : List Nat} (hR : ∀ r ∈ R, r ≤ 60) (j : Nat) : inR (rtF (plL N l f R) j) := by
  unfold inR
  rcases Nat.lt_or_ge j (plL N l f R).length with h | h
  · obtain ⟨y, hy, e⟩ := rtF_mem h
    have := hR y (List.mem_filter.1 hy).1
    rw [e]; omega
  · unfold rtF; rw [List.getD_eq_getElem?_getD, List.getElem?_eq_none h]; simp
theorem roots_le {n l : Nat} (hl : primeN l = true) : ∀ r ∈ roots n l, r < l ∧ r ≤ 60 := fun r hr => by
  have hb := primeN_bd hl
  have := roots_mem.1 hr
  omega

section
variable {o : Bool} {lo hi : Nat} {v : Value} {L : Nat} {f : Nat → Int}
theorem PlacesWith_impl_bad (x l : Int) (w : World) (hs : Sl o w lo hi v L f) (h : ¬ CyP x L f) :
    Calls Try.prog 26 #[.agg #[.int .i64 x, v], .int .i64 l] w fun r w' => ∃ a k, r = .returned (.tuple #[.slice a 0 k, .int .i64 1]) ∧ Sl true w' w.heap.size w'.heap.size (.slice a 0 k) 0 (fun _ => 0) ∧ Below w.heap.size w w' := by
  obtain ⟨av, cap, rfl⟩ := hs.shape
  have HC := Lib.hid h
  have st0 := ((((St.start w).addSl ⟨o, lo, hi, .slice av L cap, L, f⟩ hs).alloc (.cells #[.int .i64 x, .slice av L cap] 31)).addBox w.heap.size [.int .i64 x, .slice av L cap] (Box.made _ _ _ _ (fun j v h => by simpa using h)))
  have q0 := st0.sl 0 ⟨o, lo, hi, .slice av L cap, L, f⟩ rfl
  dsimp only at q0
  clear h hs
  go_enter Try.func26, Try.ntmps26
  go_wp2_with (go_at_call 44; refine (IsCyclo_no _ _ q0 HC.out).mono ?_; rintro r w1 ⟨rfl, b1⟩)
  have BB := (st0.keep b1).1
  go_ret2
  exact ⟨none, 0, rfl, Sl.nil _ _ _ (Nat.le_refl _) _, BB⟩
theorem PlacesWith_impl_out (x l : Int) (w : World) (hs : Sl o w lo hi v L f) (h : CyP x L f) (hf : ¬ FuP x l) :
    Calls Try.prog 26 #[.agg #[.int .i64 x, v], .int .i64 l] w fun r w' => ∃ a k, r = .returned (.tuple #[.slice a 0 k, .int .i64 2]) ∧ Sl true w' w.heap.size w'.heap.size (.slice a 0 k) 0 (fun _ => 0) ∧ Below w.heap.size w w' := by
  obtain ⟨av, cap, rfl⟩ := hs.shape
  have HC := Lib.hid h
  have st0 := ((((St.start w).addSl ⟨o, lo, hi, .slice av L cap, L, f⟩ hs).alloc (.cells #[.int .i64 x, .slice av L cap] 31)).addBox w.heap.size [.int .i64 x, .slice av L cap] (Box.made _ _ _ _ (fun j v h => by simpa using h)))
  have q0 := st0.sl 0 ⟨o, lo, hi, .slice av L cap, L, f⟩ rfl
  dsimp only at q0
  have HF := Lib.hid hf
  clear h hs hf
  go_enter Try.func26, Try.ntmps26
  go_wp2_with (first
    | (go_at_call 44; refine (IsCyclo_yes _ _ q0 HC.out).mono ?_; rintro r w1 ⟨rfl, b1⟩; have st1 := st0.keep b1; obtain ⟨c10, c11⟩ := (st1.box 0 (w.heap.size, [.int .i64 x, .slice av L cap]) rfl).cell2)
    | (go_at_call 34; refine (haveRoots_no x l HF.out _).mono ?_; rintro r w2 ⟨rfl, b2⟩))
  have BB := (st1.keep b2).1
  go_ret2
  exact ⟨none, 0, rfl, Sl.nil _ _ _ (Nat.le_refl _) _, BB⟩
set_option maxRecDepth 100000 in
set_option maxHeartbeats 4000000 in
theorem PlacesWith_impl_ok (n p : Nat) (w : World) (hs : Sl o w lo hi v L f) (h : CyP n L f) (h1 : 1 ≤ n) (h2 : n ≤ 16) (hl : primeN p = true) (hf : fullN p n = true) :
    Calls Try.prog 26 #[.agg #[.int .i64 (n : Int), v], .int .i64 (p : Int)] w fun r w' => ∃ a k, r = .returned (.tuple #[.slice a (plL L p f (roots n p)).length k, .int .i64 0]) ∧ Sl true w' w.heap.size w'.heap.size (.slice a (plL L p f (roots n p)).length k) (plL L p f (roots n p)).length (rtF (plL L p f (roots n p))) ∧ Below w.heap.size w w' := by
  have hb := primeN_bd hl
  have HL := Lib.hid hl
  have HF := Lib.hid hf
  have HW := Lib.hid h.2.2.2
  have hLn : L = phiN n := h.2.2.1
  have hph := phi_bd n (by omega) h1
  have hL12 : 1 ≤ L ∧ L ≤ 12 := by omega
  have hhi := hs.size
  have hrl := roots_len60 n p hl
  have HRM := Lib.hid (roots_le (n := n) hl)
  obtain ⟨R, hR⟩ : ∃ R, roots n p = R := ⟨_, rfl⟩
  rw [hR] at hrl HRM ⊢
  have HR := Lib.hid hR
  clear hLn hph hR
  obtain ⟨av, cap, rfl⟩ := hs.shape
  have HC := Lib.hid h
  have st0 := ((((St.start w).addSl ⟨o, lo, hi, .slice av L cap, L, f⟩ hs).alloc (.cells #[.int .i64 (n : Int), .slice av L cap] 31)).addBox w.heap.size [.int .i64 (n : Int), .slice av L cap] (Box.made _ _ _ _ (fun j v h => by simpa using h)))
  have q0 := st0.sl 0 ⟨o, lo, hi, .slice av L cap, L, f⟩ rfl
  dsimp only at q0
  clear h hs hl hf
  go_enter Try.func26, Try.ntmps26
  go_wp2_with (first
    | (go_at_call 44; refine (IsCyclo_yes _ _ q0 HC.out).mono ?_; rintro r w1 ⟨rfl, b1⟩; have st1 := st0.keep b1; have hz1 := b1.size; simp only [World.size_alloc] at hz1; obtain ⟨c10, c11⟩ := (st1.box 0 (w.heap.size, [.int .i64 (n : Int), .slice av L cap]) rfl).cell2)
    | (go_at_call 34; refine (haveRoots_yes n p h1 h2 HL.out HF.out _).mono ?_; rintro r w2 ⟨rfl, b2⟩; have st2 := st1.keep b2; have hz2 := b2.size; have st2' := st2.alloc (.cells #[] 2); obtain ⟨c20, c21⟩ := (st2'.box 0 (w.heap.size, [.int .i64 (n : Int), .slice av L cap]) rfl).cell2)
    | (go_at_call 35; refine (rootsFor_any n p h1 h2 HL.out _).mono ?_; rw [HR.out]; rintro r w3 ⟨a3, k3, rfl, s3, b3⟩))
  have R1 := Lib.hid ((Row.made w2 w2.heap.size (rtF (plL L p f (List.take 0 R))) (Nat.le_refl _)).keepZ b3)
  have hz3 := b3.size
  simp only [World.size_alloc] at hz3 s3
  have ST := Lib.hid ((st2'.keep b3).addSl ⟨true, w2.heap.size + 1, w3.heap.size, .slice a3 R.length k3, R.length, rtF R⟩ s3)
  clear st0 st1 st2 st2' b1 b2 b3 s3 q0 c10 c11 c20 c21
  go_wp2
  go_loopw [6, 23] (fun s6 s23 wr => ∃ (k g cp : Nat), k ≤ R.length ∧ s6 = .slice (some ⟨g, 0, none⟩) (plL L p f (List.take k R)).length cp ∧ s23 = .int .i64 (k : Int) ∧ Row wr w2.heap.size g cp (plL L p f (List.take k R)).length (rtF (plL L p f (List.take k R))) ∧ (g = w2.heap.size ∨ w3.heap.size ≤ g) ∧ w3.heap.size ≤ wr.heap.size ∧ St w wr [(w.heap.size, [.int .i64 (n : Int), .slice av L cap])] [⟨true, w2.heap.size + 1, w3.heap.size, .slice a3 R.length k3, R.length, rtF R⟩, ⟨o, lo, hi, .slice av L cap, L, f⟩]) (fun _ s23 _ => R.length - (intOf s23).toNat)
  case atStart => exact ⟨0, w2.heap.size, 0, by omega, rfl, rfl, R1.out, .inl rfl, Nat.le_refl _, ST.out⟩
  case round =>
    clear R1 ST
    obtain ⟨k, g, cp, hk, rfl, rfl, hr, hgg, hzr, hst⟩ := hrel
    have R1 := Lib.hid hr
    have HT := Lib.hid hst
    clear hr hst
    obtain ⟨hl1, hl2⟩ := R1.out.lt
    have hkl := plL_len L p f (R.take k)
    rw [List.length_take] at hkl
    by_cases hlt : k < R.length
    · have qr := HT.out.sl 0 ⟨true, w2.heap.size + 1, w3.heap.size, .slice a3 R.length k3, R.length, rtF R⟩ rfl
      have qx := HT.out.sl 1 ⟨o, lo, hi, .slice av L cap, L, f⟩ rfl
      dsimp only at qr qx
      obtain ⟨gr, offr, capr, hv, _, _, _, _, hcr, _⟩ := qr.at (by omega)
      cases hv
      obtain ⟨d0, d1⟩ := (HT.out.box 0 (w.heap.size, [.int .i64 (n : Int), .slice av L cap]) rfl).cell2
      dsimp only at d0 d1
      obtain ⟨r0, hr0⟩ : ∃ r0, R.getD k 0 = r0 := ⟨_, rfl⟩
      have hck := hcr k hlt
      rw [show rtF R k = ((r0 : Nat) : Int) by unfold rtF; rw [hr0]] at hck
      have hrm : r0 ∈ R := by rw [← hr0, List.getD_eq_getElem?_getD, List.getElem?_eq_getElem hlt]; exact List.getElem_mem hlt
      have hr60 := HRM.out r0 hrm
      clear hcr hrm qr
      have hvn := valN_bd f L (r0 : Int) (q := (p : Int)) (by omega)
      by_cases hx : valN f L ((r0 : Nat) : Int) p = 0
      · have hxb : (valN f L (r0 : Int) (p : Int) == 0) = true := by rw [hx]; rfl
        have HL2 := Lib.hid (show plL L p f (R.take (k + 1)) = plL L p f (R.take k) ++ [r0] by rw [← hr0]; exact plL_yes hlt (by rw [hr0]; exact hx))
        clear hx hvn hr0
        generalize plL L p f (R.take k) = M at *
        go_wp2_with (first
          | (go_at_call 45; refine (valueModulo_any _ qx HW.out (by omega) (by omega) r0 p (by omega) (by omega) (by omega)).mono ?_; rintro r w5 ⟨rfl, b5⟩; have R2 := Lib.hid (R1.out.keepZ b5); have HT2 := Lib.hid (HT.out.keep b5); have hz5 := b5.size)
          | (at_builtin; refine wpList_push rfl (.tmp 33) (.tmp 35) rfl rfl w2.heap.size g cp M.length (rtF M) rfl (R2.out.alloc _) w5.heap.size (r0 : Int) rfl (heap_alloc_new w5 _) (by omega) ?_; intro gA kA wA rowA grA orA ltA; have stA := Lib.hid ((HT2.out.alloc (.cells #[.int .i64 (r0 : Int)] 2)).write (Frame.ofGrown grA) (by omega) (by intro b hb; simp only [List.mem_cons, List.not_mem_nil, or_false] at hb; rcases hb with rfl; left; show w.heap.size < _; omega) (by intro s hs'; simp only [List.mem_cons, List.not_mem_nil, or_false] at hs'; rcases hs' with rfl | rfl; (· rcases hgg with hgg | hgg; (· right; show _ ≤ w2.heap.size + 1; omega); (· left; show w3.heap.size ≤ _; omega)); (· left; show hi ≤ _; omega))); have ZA := Lib.hid grA.size; have OA := Lib.hid orA; have RA := Lib.hid rowA; clear rowA grA orA))
        have GA := Lib.hid (show (gA = w2.heap.size ∨ w3.heap.size ≤ gA) from by have orA := OA.out; simp only [World.size_alloc] at orA; rcases orA with e | e <;> omega)
        have hzA := ZA.out
        simp only [World.size_alloc] at hzA
        go_roundw
        case rel =>
          refine ⟨k + 1, gA, kA, by omega, by rw [HL2.out, List.length_append]; rfl, by go_num, ?_, GA.out, by omega, stA.out⟩
          rw [HL2.out, List.length_append]
          exact RA.out.congr (fun j hj => by rw [rtF_push M r0 j hj])
        case measure => simp [intOf] <;> omega
      · have hxb : (valN f L (r0 : Int) (p : Int) == 0) = false := beq_eq_false_iff_ne.2 hx
        have HL2 := Lib.hid (show plL L p f (R.take (k + 1)) = plL L p f (R.take k) by exact plL_no hlt (by rw [hr0]; exact hx))
        clear hx hvn hr0
        go_wp2_with (go_at_call 45; refine (valueModulo_any _ qx HW.out (by omega) (by omega) r0 p (by omega) (by omega) (by omega)).mono ?_; rintro r w5 ⟨rfl, b5⟩; have R2 := Lib.hid (R1.out.keepZ b5); have HT2 := Lib.hid (HT.out.keep b5); have hz5 := b5.size)
        go_wp2
        go_roundw
        case rel => exact ⟨k + 1, g, cp, by omega, by rw [HL2.out], by go_num, by rw [HL2.out]; exact R2.out, hgg, by omega, HT2.out⟩
        case measure => simp [intOf] <;> omega
    · obtain rfl : k = R.length := by omega
      have BB := HT.out.1
      rw [List.take_length] at R1 hkl ⊢
      go_wp2
      go_ret2
      refine ⟨_, _, rfl, ?_, BB⟩
      exact (Sl.ofRowF R1.out (fun j hj => plL_inR (n := n) (fun r hr => (HRM.out r hr).2) j) (by unfold maxLen; omega)).wide (by omega) (Nat.le_refl _) (Nat.le_refl _)
theorem PlacesWith_spec_bad (x l : Int) (w : World) (hs : Sl o w lo hi v L f) (h : ¬ CyP x L f) :
    Calls Try.prog 24 #[.agg #[.int .i64 x, v], .int .i64 l] w fun r w' => ∃ a k, r = .returned (.tuple #[.slice a 0 k, .int .i64 1]) ∧ Sl true w' w.heap.size w'.heap.size (.slice a 0 k) 0 (fun _ => 0) ∧ Below w.heap.size w w' := by
  obtain ⟨av, cap, rfl⟩ := hs.shape
  have HC := Lib.hid h
  have st0 := ((((St.start w).addSl ⟨o, lo, hi, .slice av L cap, L, f⟩ hs).alloc (.cells #[.int .i64 x, .slice av L cap] 31)).addBox w.heap.size [.int .i64 x, .slice av L cap] (Box.made _ _ _ _ (fun j v h => by simpa using h)))
  have q0 := st0.sl 0 ⟨o, lo, hi, .slice av L cap, L, f⟩ rfl
  dsimp only at q0
  clear h hs
  go_enter Try.func24, Try.ntmps24
  go_wp2_with (go_at_call 42; refine (l01Is_no _ _ q0 HC.out).mono ?_; rintro r w1 ⟨rfl, b1⟩)
  have BB := (st0.keep b1).1
  go_ret2
  exact ⟨none, 0, rfl, Sl.nil _ _ _ (Nat.le_refl _) _, BB⟩
theorem PlacesWith_spec_out (x l : Int) (w : World) (hs : Sl o w lo hi v L f) (h : CyP x L f) (hf : ¬ FuP x l) :
    Calls Try.prog 24 #[.agg #[.int .i64 x, v], .int .i64 l] w fun r w' => ∃ a k, r = .returned (.tuple #[.slice a 0 k, .int .i64 2]) ∧ Sl true w' w.heap.size w'.heap.size (.slice a 0 k) 0 (fun _ => 0) ∧ Below w.heap.size w w' := by
  obtain ⟨av, cap, rfl⟩ := hs.shape
  have HC := Lib.hid h
  have st0 := ((((St.start w).addSl ⟨o, lo, hi, .slice av L cap, L, f⟩ hs).alloc (.cells #[.int .i64 x, .slice av L cap] 31)).addBox w.heap.size [.int .i64 x, .slice av L cap] (Box.made _ _ _ _ (fun j v h => by simpa using h)))
  have q0 := st0.sl 0 ⟨o, lo, hi, .slice av L cap, L, f⟩ rfl
  dsimp only at q0
  by_cases hsp : SpP x l
  · have HF := Lib.hid (show fullN l.toNat x.toNat = false by
      cases e : fullN l.toNat x.toNat with
      | false => rfl
      | true => exact absurd ⟨hsp, e⟩ hf)
    obtain ⟨n, p, rfl, rfl, h1, h2, hl⟩ := hsp.nat
    rw [Int.toNat_natCast, Int.toNat_natCast] at HF
    have HL := Lib.hid hl
    clear h hs hf hsp hl
    go_enter Try.func24, Try.ntmps24
    go_wp2_with (first
      | (go_at_call 42; refine (l01Is_yes _ _ q0 HC.out).mono ?_; rintro r w1 ⟨rfl, b1⟩; have st1 := st0.keep b1; obtain ⟨c10, c11⟩ := (st1.box 0 (w.heap.size, [.int .i64 (n : Int), .slice av L cap]) rfl).cell2)
      | (go_at_call 27; refine (l07Code_yes n p h1 h2 HL.out _).mono ?_; rintro r w2 ⟨rfl, m2, rfl⟩)
      | (go_at_call 32; refine (l07Fully_any n p h1 h2 HL.out _).mono ?_; rintro r w3 ⟨rfl, rfl⟩; rw [HF.out]))
    have BB := (st1.drewN m2).1
    go_ret2
    exact ⟨none, 0, rfl, Sl.nil _ _ _ (Nat.le_refl _) _, BB⟩
  · have HS := Lib.hid hsp
    clear h hs hf hsp
    go_enter Try.func24, Try.ntmps24
    go_wp2_with (first
      | (go_at_call 42; refine (l01Is_yes _ _ q0 HC.out).mono ?_; rintro r w1 ⟨rfl, b1⟩; have st1 := st0.keep b1; obtain ⟨c10, c11⟩ := (st1.box 0 (w.heap.size, [.int .i64 x, .slice av L cap]) rfl).cell2)
      | (go_at_call 27; refine (l07Code_no x l HS.out _).mono ?_; rintro r w2 ⟨rfl, m2, rfl⟩))
    have BB := (st1.drewN m2).1
    go_ret2
    exact ⟨none, 0, rfl, Sl.nil _ _ _ (Nat.le_refl _) _, BB⟩
set_option maxRecDepth 100000 in
set_option maxHeartbeats 4000000 in
theorem PlacesWith_spec_ok (n p : Nat) (w : World) (hs : Sl o w lo hi v L f) (h : CyP n L f) (h1 : 1 ≤ n) (h2 : n ≤ 16) (hl : primeN p = true) (hf : fullN p n = true) :
    Calls Try.prog 24 #[.agg #[.int .i64 (n : Int), v], .int .i64 (p : Int)] w fun r w' => ∃ a k, r = .returned (.tuple #[.slice a (plL L p f (roots n p)).length k, .int .i64 0]) ∧ Sl true w' w.heap.size w'.heap.size (.slice a (plL L p f (roots n p)).length k) (plL L p f (roots n p)).length (rtF (plL L p f (roots n p))) ∧ Below w.heap.size w w' := by
  have hb := primeN_bd hl
  have HL := Lib.hid hl
  have HF := Lib.hid hf
  have HW := Lib.hid h.2.2.2
  have hLn : L = phiN n := h.2.2.1
  have hph := phi_bd n (by omega) h1
  have hL12 : 1 ≤ L ∧ L ≤ 12 := by omega
  have hhi := hs.size
  have hrl := roots_len60 n p hl
  have HRM := Lib.hid (roots_le (n := n) hl)
  obtain ⟨R, hR⟩ : ∃ R, roots n p = R := ⟨_, rfl⟩
  rw [hR] at hrl HRM ⊢
  have HR := Lib.hid hR
  clear hLn hph hR
  obtain ⟨av, cap, rfl⟩ := hs.shape
  have HC := Lib.hid h
  have st0 := ((((St.start w).addSl ⟨o, lo, hi, .slice av L cap, L, f⟩ hs).alloc (.cells #[.int .i64 (n : Int), .slice av L cap] 31)).addBox w.heap.size [.int .i64 (n : Int), .slice av L cap] (Box.made _ _ _ _ (fun j v h => by simpa using h)))
  have q0 := st0.sl 0 ⟨o, lo, hi, .slice av L cap, L, f⟩ rfl
  dsimp only at q0
  clear h hs hl hf
  go_enter Try.func24, Try.ntmps24
  go_wp2_with (first
    | (go_at_call 42; refine (l01Is_yes _ _ q0 HC.out).mono ?_; rintro r w1 ⟨rfl, b1⟩; have st1 := st0.keep b1; have hz1 := b1.size; simp only [World.size_alloc] at hz1; obtain ⟨c10, c11⟩ := (st1.box 0 (w.heap.size, [.int .i64 (n : Int), .slice av L cap]) rfl).cell2)
    | (go_at_call 27; refine (l07Code_yes n p h1 h2 HL.out _).mono ?_; rintro r w2 ⟨rfl, m2, rfl⟩; have st2 := st1.drewN m2; obtain ⟨c20, c21⟩ := (st2.box 0 (w.heap.size, [.int .i64 (n : Int), .slice av L cap]) rfl).cell2)
    | (go_at_call 32; refine (l07Fully_any n p h1 h2 HL.out _).mono ?_; rintro r w4 ⟨rfl, rfl⟩; rw [HF.out])
    | (go_at_call 33; refine (l07Roots_any n p h1 h2 HL.out _).mono ?_; rw [HR.out]; rintro r w3 ⟨a3, k3, rfl, s3, b3⟩))
  have hz3 := b3.size
  simp only [show (w1.drewN m2).heap.size = w1.heap.size from rfl] at hz3 s3
  have R1 := Lib.hid (Row.made w3 w3.heap.size (rtF (plL L p f (List.take 0 R))) (Nat.le_refl _))
  have ST := Lib.hid (((st2.keep b3).addSl ⟨true, w1.heap.size, w3.heap.size, .slice a3 R.length k3, R.length, rtF R⟩ s3).alloc (.cells #[] 2))
  clear st0 st1 st2 b1 b3 s3 q0 c10 c11 c20 c21
  go_wp2
  go_loopw [7, 8] (fun s7 s8 wr => ∃ (k g cp : Nat), k ≤ R.length ∧ s7 = .slice (some ⟨g, 0, none⟩) (plL L p f (List.take k R)).length cp ∧ s8 = .int .i64 (k : Int) ∧ Row wr w3.heap.size g cp (plL L p f (List.take k R)).length (rtF (plL L p f (List.take k R))) ∧ (w3.heap.size ≤ g) ∧ w3.heap.size ≤ wr.heap.size ∧ St w wr [(w.heap.size, [.int .i64 (n : Int), .slice av L cap])] [⟨true, w1.heap.size, w3.heap.size, .slice a3 R.length k3, R.length, rtF R⟩, ⟨o, lo, hi, .slice av L cap, L, f⟩]) (fun _ s8 _ => R.length - (intOf s8).toNat)
  case atStart => exact ⟨0, w3.heap.size, 0, by omega, rfl, rfl, R1.out, Nat.le_refl _, by simp, ST.out⟩
  case round =>
    clear R1 ST
    obtain ⟨k, g, cp, hk, rfl, rfl, hr, hgg, hzr, hst⟩ := hrel
    have R1 := Lib.hid hr
    have HT := Lib.hid hst
    clear hr hst
    obtain ⟨hl1, hl2⟩ := R1.out.lt
    have hkl := plL_len L p f (R.take k)
    rw [List.length_take] at hkl
    by_cases hlt : k < R.length
    · have qr := HT.out.sl 0 ⟨true, w1.heap.size, w3.heap.size, .slice a3 R.length k3, R.length, rtF R⟩ rfl
      have qx := HT.out.sl 1 ⟨o, lo, hi, .slice av L cap, L, f⟩ rfl
      dsimp only at qr qx
      obtain ⟨gr, offr, capr, hv, _, _, _, _, hcr, _⟩ := qr.at (by omega)
      cases hv
      obtain ⟨d0, d1⟩ := (HT.out.box 0 (w.heap.size, [.int .i64 (n : Int), .slice av L cap]) rfl).cell2
      dsimp only at d0 d1
      obtain ⟨r0, hr0⟩ : ∃ r0, R.getD k 0 = r0 := ⟨_, rfl⟩
      have hck := hcr k hlt
      rw [show rtF R k = ((r0 : Nat) : Int) by unfold rtF; rw [hr0]] at hck
      have hrm : r0 ∈ R := by rw [← hr0, List.getD_eq_getElem?_getD, List.getElem?_eq_getElem hlt]; exact List.getElem_mem hlt
      have hr60 := HRM.out r0 hrm
      clear hcr hrm qr
      have hvn := valN_bd f L (r0 : Int) (q := (p : Int)) (by omega)
      by_cases hx : valN f L ((r0 : Nat) : Int) p = 0
      · have hxb : (valN f L (r0 : Int) (p : Int) == 0) = true := by rw [hx]; rfl
        have HL2 := Lib.hid (show plL L p f (R.take (k + 1)) = plL L p f (R.take k) ++ [r0] by rw [← hr0]; exact plL_yes hlt (by rw [hr0]; exact hx))
        clear hx hvn hr0
        generalize plL L p f (R.take k) = M at *
        go_wp2_with fail
        go_quiet (first | (go_at_call 43; exact Calls.quiet_of (l07Value_any _ (qx.drewN _) HW.out (by omega) (by omega) r0 p (by omega) (by omega) (by omega))))
        have b5 := below_drewN (Below.refl wr.heap.size wr) nq
        have hck5 := (b5.cell (p := ⟨gr, offr + k, none⟩) (by show gr < _; omega)).trans hck
        obtain ⟨w5, hw5⟩ : ∃ w5, wr.drewN nq = w5 := ⟨_, rfl⟩
        rw [hw5] at b5 hck5 ⊢
        clear hw5
        have R2 := Lib.hid (R1.out.keepZ b5)
        have HT2 := Lib.hid (HT.out.keep b5)
        have hz5 := b5.size
        go_wp2_with (at_builtin; refine wpList_push rfl (.tmp 44) (.tmp 49) rfl rfl w3.heap.size g cp M.length (rtF M) rfl (R2.out.alloc _) w5.heap.size (r0 : Int) rfl (heap_alloc_new w5 _) (by omega) ?_; intro gA kA wA rowA grA orA ltA; have stA := Lib.hid ((HT2.out.alloc (.cells #[.int .i64 (r0 : Int)] 2)).write (Frame.ofGrown grA) (by omega) (by intro b hb; simp only [List.mem_cons, List.not_mem_nil, or_false] at hb; rcases hb with rfl; left; show w.heap.size < _; omega) (by intro s hs'; simp only [List.mem_cons, List.not_mem_nil, or_false] at hs'; rcases hs' with rfl | rfl; (· left; show w3.heap.size ≤ _; omega); (· left; show hi ≤ _; omega))); have ZA := Lib.hid grA.size; have OA := Lib.hid orA; have RA := Lib.hid rowA; clear rowA grA orA)
        have GA := Lib.hid (show (w3.heap.size ≤ gA) from by have orA := OA.out; simp only [World.size_alloc] at orA; rcases orA with e | e <;> omega)
        have hzA := ZA.out
        simp only [World.size_alloc] at hzA
        go_roundw
        case rel =>
          refine ⟨k + 1, gA, kA, by omega, by rw [HL2.out, List.length_append]; rfl, by go_num, ?_, GA.out, by omega, stA.out⟩
          rw [HL2.out, List.length_append]
          exact RA.out.congr (fun j hj => by rw [rtF_push M r0 j hj])
        case measure => simp [intOf] <;> omega
      · have hxb : (valN f L (r0 : Int) (p : Int) == 0) = false := beq_eq_false_iff_ne.2 hx
        have HL2 := Lib.hid (show plL L p f (R.take (k + 1)) = plL L p f (R.take k) by exact plL_no hlt (by rw [hr0]; exact hx))
        clear hx hvn hr0
        go_wp2_with fail
        go_quiet (first | (go_at_call 43; exact Calls.quiet_of (l07Value_any _ (qx.drewN _) HW.out (by omega) (by omega) r0 p (by omega) (by omega) (by omega))))
        have b5 := below_drewN (Below.refl wr.heap.size wr) nq
        have hck5 := (b5.cell (p := ⟨gr, offr + k, none⟩) (by show gr < _; omega)).trans hck
        obtain ⟨w5, hw5⟩ : ∃ w5, wr.drewN nq = w5 := ⟨_, rfl⟩
        rw [hw5] at b5 hck5 ⊢
        clear hw5
        have R2 := Lib.hid (R1.out.keepZ b5)
        have HT2 := Lib.hid (HT.out.keep b5)
        have hz5 := b5.size
        go_wp2
        go_roundw
        case rel => exact ⟨k + 1, g, cp, by omega, by rw [HL2.out], by go_num, by rw [HL2.out]; exact R2.out, hgg, by omega, HT2.out⟩
        case measure => simp [intOf] <;> omega
    · obtain rfl : k = R.length := by omega
      have BB := HT.out.1
      rw [List.take_length] at R1 hkl ⊢
      go_wp2
      go_ret2
      refine ⟨_, _, rfl, ?_, BB⟩
      exact (Sl.ofRowF R1.out (fun j hj => plL_inR (n := n) (fun r hr => (HRM.out r hr).2) j) (by unfold maxLen; omega)).wide (by omega) (Nat.le_refl _) (Nat.le_refl _)
end
end Go.Proofs.Ythookppmclimkaa
