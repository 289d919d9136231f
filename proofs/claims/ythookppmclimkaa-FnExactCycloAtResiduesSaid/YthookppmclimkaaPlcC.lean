/- Roots of 1 modulo a prime: rootsFor, RootsFor of the program and of the model. -/
import Derived.Test.YthookppmclimkaaPlcA
import Derived.Test.YthookppmclimkaaPlcB
import Derived.Test.YthookppmclimkaaCycImpl
import Derived.Test.YthookppmclimkaaCycSpec
import Derived.Test.YthookppmclimkaaRow
namespace Go.Proofs.Ythookppmclimkaa
open Go.RowKit Go.ChangeShapes Go.Sort
set_option linter.unusedVariables false
set_option linter.unusedSimpArgs false
set_option maxRecDepth 100000

theorem Row.keepZ {w w' : World} {base g cap n : Nat} {f : Nat → Int} (h : Row w base g cap n f) (hb : Below w.heap.size w w') : Row w' base g cap n f :=
  World.ownsRow.kept (row := none) h ⟨hb.os, hb.tape, hb.output, hb.size, fun k hk _ => hb.block k hk⟩ (.inr (fun e => by cases e))
theorem roots_len60 (n l : Nat) (hl : primeN l = true) : (roots n l).length ≤ 60 := by
  have hb := primeN_bd hl
  have := rtL_len n l (List.range (l - 1))
  unfold roots
  rw [List.length_range] at this
  omega
theorem roots_le {n l : Nat} (hl : primeN l = true) : ∀ r ∈ roots n l, r < l ∧ r ≤ 60 := fun r hr => by
  have hb := primeN_bd hl
  have := roots_mem.1 hr
  omega
theorem rtF_inR {n l m j : Nat} (hm : m ≤ 60) : inR (rtF (rtL n l (List.range m)) j) := by
  have := rtF_bd (n := n) (l := l) (m := m) (j := j) hm
  unfold inR; omega
theorem cyc_in9 {n : Nat} (h1 : 1 ≤ n) (h2 : n ≤ 16) : Within (cyc n) (phiN n + 1) 1000000000 := fun i hi => by
  have := cyc_bd1 h1 h2 hi
  omega
set_option maxHeartbeats 4000000 in
theorem rootsFor_any (n l : Nat) (h1 : 1 ≤ n) (h2 : n ≤ 16) (hl : primeN l = true) (w : World) :
    Calls Try.prog 35 #[.int .i64 (n : Int), .int .i64 (l : Int)] w fun r w' => ∃ a k, r = .returned (.slice a (roots n l).length k) ∧ Sl true w' w.heap.size w'.heap.size (.slice a (roots n l).length k) (roots n l).length (rtF (roots n l)) ∧ Below w.heap.size w w' := by
  have hb := primeN_bd hl
  obtain ⟨m, hm⟩ : ∃ m, l - 1 = m := ⟨_, rfl⟩
  have HM := Lib.hid hm
  have hm60 : m ≤ 60 := by omega
  have HL := Lib.hid hl
  have HC := Lib.hid (cyc_in9 h1 h2)
  have hph := phi_bd n (by omega) h1
  unfold roots
  rw [hm]
  clear hl hm
  go_enter Try.func35, Try.ntmps35
  go_wp2_with (go_at_call 51; refine (polynomialOf_any n (by omega) h1 _).mono ?_; rintro r w1 ⟨a1, k1, rfl, s1, b1⟩)
  have hz1 := b1.size
  have st1 := ((St.start w).keep b1).addSl ⟨true, w.heap.size, w1.heap.size, .slice a1 (phiN n + 1) k1, phiN n + 1, cyc n⟩ s1
  have R1 := Lib.hid (Row.made w1 w1.heap.size (rtF (rtL n l [])) (Nat.le_refl _))
  have ST := Lib.hid (st1.alloc (.cells #[] 2))
  have lo := Nat.le_refl w1.heap.size
  clear s1 b1 st1
  go_wp2
  go_loopw [6, 7] (fun s6 s7 wr => ∃ (k g cap : Nat), k ≤ m ∧ s6 = .slice (some ⟨g, 0, none⟩) (rtL n l (List.range k)).length cap ∧ s7 = .int .i64 ((k : Int) + 1) ∧ Row wr w1.heap.size g cap (rtL n l (List.range k)).length (rtF (rtL n l (List.range k))) ∧ w1.heap.size ≤ g ∧ w1.heap.size ≤ wr.heap.size ∧ St w wr [] [⟨true, w.heap.size, w1.heap.size, .slice a1 (phiN n + 1) k1, phiN n + 1, cyc n⟩]) (fun _ s7 _ => l + 1 - (intOf s7).toNat)
  case atStart => exact ⟨0, _, _, by omega, rfl, rfl, R1.out, Nat.le_refl _, by first | exact Nat.le_refl _ | (simp), ST.out⟩
  case round =>
    clear R1 ST
    obtain ⟨k, g, cap, hk, rfl, rfl, hr, hgg, hzr, hst⟩ := hrel
    have R1 := Lib.hid hr
    have HT := Lib.hid hst
    clear hr hst
    obtain ⟨hl1, hl2⟩ := R1.out.lt
    have hkl := rtL_len n l (List.range k)
    rw [List.length_range] at hkl
    have hpm := HM.out
    by_cases hlt : k < m
    · have q0 := HT.out.sl 0 ⟨true, w.heap.size, w1.heap.size, .slice a1 (phiN n + 1) k1, phiN n + 1, cyc n⟩ rfl
      dsimp only at q0
      have hltp : (k : Int) + 1 < (l : Int) := by omega
      have hvn := valN_bd (cyc n) (phiN n + 1) ((k : Int) + 1) (q := (l : Int)) (by omega)
      cases hx : isRt n l (k + 1) with
      | true =>
        have hxv := (isRt_iff h1 h2).1 hx
        rw [show (((k + 1 : Nat) : Int)) = (k : Int) + 1 by omega] at hxv
        have hxb : (valN (cyc n) (phiN n + 1) ((k : Int) + 1) (l : Int) == 0) = true := by rw [hxv]; rfl
        have HL2 := Lib.hid (show rtL n l (List.range (k + 1)) = rtL n l (List.range k) ++ [k + 1] by rw [List.range_succ]; exact rtL_yes _ hx)
        clear hx hxv hvn hpm
        generalize rtL n l (List.range k) = L at *
        go_wp2_with (first
          | (go_at_call 45; refine (valueModulo_any _ q0 HC.out (by omega) (by omega) (k + 1) l (by omega) (by omega) (by omega)).mono ?_; rintro r w2 ⟨rfl, b2⟩; have R2 := Lib.hid (R1.out.keepZ b2); have HT2 := Lib.hid (HT.out.keep b2); have hz2 := b2.size)
          | (at_builtin; refine wpList_push rfl (.tmp 21) (.tmp 23) rfl rfl w1.heap.size g cap L.length (rtF L) rfl (R2.out.alloc _) w2.heap.size ((k : Int) + 1) rfl (heap_alloc_new w2 _) (by omega) ?_; intro gA kA wA rowA grA orA ltA; have stA := Lib.hid ((HT2.out.alloc (.cells #[.int .i64 ((k : Int) + 1)] 2)).write (Frame.ofGrown grA) (by omega) (by intro b hb; cases hb) (by intro s hs'; simp only [List.mem_cons, List.not_mem_nil, or_false] at hs'; rcases hs' with rfl; left; show w1.heap.size ≤ _; omega)); have ZA := Lib.hid grA.size; have OA := Lib.hid orA; have RA := Lib.hid rowA; clear rowA grA orA))
        have GA := Lib.hid (show w1.heap.size ≤ gA from by have orA := OA.out; simp only [World.size_alloc] at orA; rcases orA with e | e <;> omega)
        have hzA := ZA.out
        simp only [World.size_alloc] at hzA
        go_roundw
        case rel =>
          refine ⟨k + 1, gA, kA, by omega, by rw [HL2.out, List.length_append]; rfl, by go_num, ?_, GA.out, by omega, stA.out⟩
          rw [HL2.out, List.length_append]
          exact RA.out.congr (fun j hj => by rw [rtF_push L (k + 1) j hj]; split <;> simp)
        case measure => simp [intOf] <;> omega
      | false =>
        have hxv : ¬ valN (cyc n) (phiN n + 1) (((k + 1 : Nat) : Int)) l = 0 := fun e => by rw [(isRt_iff h1 h2).2 e] at hx; cases hx
        rw [show (((k + 1 : Nat) : Int)) = (k : Int) + 1 by omega] at hxv
        have hxb : (valN (cyc n) (phiN n + 1) ((k : Int) + 1) (l : Int) == 0) = false := beq_eq_false_iff_ne.2 hxv
        have HL2 := Lib.hid (show rtL n l (List.range (k + 1)) = rtL n l (List.range k) by rw [List.range_succ]; exact rtL_no _ hx)
        clear hx hxv hvn hpm
        go_wp2_with (go_at_call 45; refine (valueModulo_any _ q0 HC.out (by omega) (by omega) (k + 1) l (by omega) (by omega) (by omega)).mono ?_; rintro r w2 ⟨rfl, b2⟩)
        have R2 := Lib.hid (R1.out.keepZ b2)
        have HT2 := Lib.hid (HT.out.keep b2)
        have hz2 := b2.size
        go_wp2
        go_roundw
        case rel => exact ⟨k + 1, g, cap, by omega, by rw [HL2.out], by go_num, by rw [HL2.out]; exact R2.out, hgg, by omega, HT2.out⟩
        case measure => simp [intOf] <;> omega
    · obtain rfl : k = m := by omega
      have hge : ¬ (k : Int) + 1 < (l : Int) := by omega
      have BB := HT.out.1
      clear hpm
      go_wp2
      go_ret
      refine ⟨_, _, rfl, ?_, BB⟩
      exact (Sl.ofRowF R1.out (fun j hj => rtF_inR hm60) (by unfold maxLen; omega)).wide (by omega) (Nat.le_refl _) (Nat.le_refl _)
set_option maxHeartbeats 4000000 in
theorem l07Roots_any (n l : Nat) (h1 : 1 ≤ n) (h2 : n ≤ 16) (hl : primeN l = true) (w : World) :
    Calls Try.prog 33 #[.int .i64 (n : Int), .int .i64 (l : Int)] w fun r w' => ∃ a k, r = .returned (.slice a (roots n l).length k) ∧ Sl true w' w.heap.size w'.heap.size (.slice a (roots n l).length k) (roots n l).length (rtF (roots n l)) ∧ Below w.heap.size w w' := by
  have hb := primeN_bd hl
  obtain ⟨m, hm⟩ : ∃ m, l - 1 = m := ⟨_, rfl⟩
  have HM := Lib.hid hm
  have hm60 : m ≤ 60 := by omega
  have HL := Lib.hid hl
  have HC := Lib.hid (cyc_in9 h1 h2)
  have hph := phi_bd n (by omega) h1
  unfold roots
  rw [hm]
  clear hl hm
  go_enter Try.func33, Try.ntmps33
  go_wp2_with (go_at_call 50; refine (l01Cyclotomic_any n (by omega) h1 _).mono ?_; rintro r w1 ⟨a1, k1, rfl, s1, b1⟩)
  have hz1 := b1.size
  simp only [World.size_alloc] at hz1 s1
  have R1 := Lib.hid ((Row.made w w.heap.size (rtF (rtL n l [])) (Nat.le_refl _)).keepZ b1)
  have st1 := (((St.start w).alloc (.cells #[] 2)).keep b1).addSl ⟨true, w.heap.size + 1, w1.heap.size, .slice a1 (phiN n + 1) k1, phiN n + 1, cyc n⟩ s1
  have ST := Lib.hid st1
  clear s1 b1 st1
  go_wp2
  go_loopw [5, 7] (fun s5 s7 wr => ∃ (k g cap : Nat), k ≤ m ∧ s5 = .slice (some ⟨g, 0, none⟩) (rtL n l (List.range k)).length cap ∧ s7 = .int .i64 ((k : Int) + 1) ∧ Row wr w.heap.size g cap (rtL n l (List.range k)).length (rtF (rtL n l (List.range k))) ∧ (g = w.heap.size ∨ w1.heap.size ≤ g) ∧ w1.heap.size ≤ wr.heap.size ∧ St w wr [] [⟨true, w.heap.size + 1, w1.heap.size, .slice a1 (phiN n + 1) k1, phiN n + 1, cyc n⟩]) (fun _ s7 _ => l + 1 - (intOf s7).toNat)
  case atStart => exact ⟨0, _, _, by omega, rfl, rfl, R1.out, .inl rfl, by first | exact Nat.le_refl _ | (simp), ST.out⟩
  case round =>
    clear R1 ST
    obtain ⟨k, g, cap, hk, rfl, rfl, hr, hgg, hzr, hst⟩ := hrel
    have R1 := Lib.hid hr
    have HT := Lib.hid hst
    clear hr hst
    obtain ⟨hl1, hl2⟩ := R1.out.lt
    have hkl := rtL_len n l (List.range k)
    rw [List.length_range] at hkl
    have hpm := HM.out
    by_cases hlt : k < m
    · have q0 := HT.out.sl 0 ⟨true, w.heap.size + 1, w1.heap.size, .slice a1 (phiN n + 1) k1, phiN n + 1, cyc n⟩ rfl
      dsimp only at q0
      have hltp : (k : Int) + 1 < (l : Int) := by omega
      have hvn := valN_bd (cyc n) (phiN n + 1) ((k : Int) + 1) (q := (l : Int)) (by omega)
      cases hx : isRt n l (k + 1) with
      | true =>
        have hxv := (isRt_iff h1 h2).1 hx
        rw [show (((k + 1 : Nat) : Int)) = (k : Int) + 1 by omega] at hxv
        have hxb : (valN (cyc n) (phiN n + 1) ((k : Int) + 1) (l : Int) == 0) = true := by rw [hxv]; rfl
        have HL2 := Lib.hid (show rtL n l (List.range (k + 1)) = rtL n l (List.range k) ++ [k + 1] by rw [List.range_succ]; exact rtL_yes _ hx)
        clear hx hxv hvn hpm
        generalize rtL n l (List.range k) = L at *
        go_wp2_with (first
          | (go_at_call 43; refine (l07Value_any _ q0 HC.out (by omega) (by omega) (k + 1) l (by omega) (by omega) (by omega)).mono ?_; rintro r w2 ⟨rfl, mm2, rfl⟩; have b2 := below_drewN (Below.refl wr.heap.size wr) mm2; obtain ⟨w2, hw2⟩ : ∃ w2, wr.drewN mm2 = w2 := ⟨_, rfl⟩; rw [hw2] at b2 ⊢; clear hw2; have R2 := Lib.hid (R1.out.keepZ b2); have HT2 := Lib.hid (HT.out.keep b2); have hz2 := b2.size)
          | (at_builtin; refine wpList_push rfl (.tmp 21) (.tmp 23) rfl rfl w.heap.size g cap L.length (rtF L) rfl (R2.out.alloc _) w2.heap.size ((k : Int) + 1) rfl (heap_alloc_new w2 _) (by omega) ?_; intro gA kA wA rowA grA orA ltA; have stA := Lib.hid ((HT2.out.alloc (.cells #[.int .i64 ((k : Int) + 1)] 2)).write (Frame.ofGrown grA) (by omega) (by intro b hb; cases hb) (by intro s hs'; simp only [List.mem_cons, List.not_mem_nil, or_false] at hs'; rcases hs' with rfl; rcases hgg with hgg | hgg; (· right; show _ ≤ w.heap.size + 1; omega); (· left; show w1.heap.size ≤ _; omega))); have ZA := Lib.hid grA.size; have OA := Lib.hid orA; have RA := Lib.hid rowA; clear rowA grA orA))
        have GA := Lib.hid (show (gA = w.heap.size ∨ w1.heap.size ≤ gA) from by have orA := OA.out; simp only [World.size_alloc] at orA; rcases orA with e | e <;> omega)
        have hzA := ZA.out
        simp only [World.size_alloc] at hzA
        go_roundw
        case rel =>
          refine ⟨k + 1, gA, kA, by omega, by rw [HL2.out, List.length_append]; rfl, by go_num, ?_, GA.out, by omega, stA.out⟩
          rw [HL2.out, List.length_append]
          exact RA.out.congr (fun j hj => by rw [rtF_push L (k + 1) j hj]; split <;> simp)
        case measure => simp [intOf] <;> omega
      | false =>
        have hxv : ¬ valN (cyc n) (phiN n + 1) (((k + 1 : Nat) : Int)) l = 0 := fun e => by rw [(isRt_iff h1 h2).2 e] at hx; cases hx
        rw [show (((k + 1 : Nat) : Int)) = (k : Int) + 1 by omega] at hxv
        have hxb : (valN (cyc n) (phiN n + 1) ((k : Int) + 1) (l : Int) == 0) = false := beq_eq_false_iff_ne.2 hxv
        have HL2 := Lib.hid (show rtL n l (List.range (k + 1)) = rtL n l (List.range k) by rw [List.range_succ]; exact rtL_no _ hx)
        clear hx hxv hvn hpm
        go_wp2_with (go_at_call 43; refine (l07Value_any _ q0 HC.out (by omega) (by omega) (k + 1) l (by omega) (by omega) (by omega)).mono ?_; rintro r w2 ⟨rfl, mm2, rfl⟩)
        have b2 := below_drewN (Below.refl wr.heap.size wr) mm2
        obtain ⟨w2, hw2⟩ : ∃ w2, wr.drewN mm2 = w2 := ⟨_, rfl⟩
        rw [hw2] at b2 ⊢
        clear hw2
        have R2 := Lib.hid (R1.out.keepZ b2)
        have HT2 := Lib.hid (HT.out.keep b2)
        have hz2 := b2.size
        go_wp2
        go_roundw
        case rel => exact ⟨k + 1, g, cap, by omega, by rw [HL2.out], by go_num, by rw [HL2.out]; exact R2.out, hgg, by omega, HT2.out⟩
        case measure => simp [intOf] <;> omega
    · obtain rfl : k = m := by omega
      have hge : ¬ (k : Int) + 1 < (l : Int) := by omega
      have BB := HT.out.1
      clear hpm
      go_wp2
      go_ret
      refine ⟨_, _, rfl, ?_, BB⟩
      exact (Sl.ofRowF R1.out (fun j hj => rtF_inR hm60) (by unfold maxLen; omega)).wide (by omega) (Nat.le_refl _) (Nat.le_refl _)

/-! RootsFor -/
theorem RootsFor_impl_ok (n l : Nat) (h1 : 1 ≤ n) (h2 : n ≤ 16) (hl : primeN l = true) (hf : fullN l n = true) (w : World) :
    Calls Try.prog 16 #[.int .i64 (n : Int), .int .i64 (l : Int)] w fun r w' => ∃ a k, r = .returned (.tuple #[.slice a (roots n l).length k, .int .i64 0]) ∧ Sl true w' w.heap.size w'.heap.size (.slice a (roots n l).length k) (roots n l).length (rtF (roots n l)) ∧ Below w.heap.size w w' := by
  have HL := Lib.hid hl
  have HF := Lib.hid hf
  clear hl hf
  go_enter Try.func16, Try.ntmps16
  go_wp2_with (first
    | (go_at_call 34; refine (haveRoots_yes n l h1 h2 HL.out HF.out _).mono ?_; rintro r w1 ⟨rfl, b1⟩)
    | (go_at_call 35; refine (rootsFor_any n l h1 h2 HL.out _).mono ?_; rintro r w2 ⟨a2, k2, rfl, s2, b2⟩))
  have hz1 := b1.size
  go_ret2
  exact ⟨a2, k2, rfl, s2.wide hz1 (Nat.le_refl _) (Nat.le_refl _), b1.trans (b2.mono hz1)⟩
theorem RootsFor_impl_bad (n l : Int) (h : ¬ FuP n l) (w : World) :
    Calls Try.prog 16 #[.int .i64 n, .int .i64 l] w fun r w' => ∃ a k, r = .returned (.tuple #[.slice a 0 k, .int .i64 2]) ∧ Sl true w' w.heap.size w'.heap.size (.slice a 0 k) 0 (fun _ => 0) ∧ Below w.heap.size w w' := by
  have H := Lib.hid h
  clear h
  go_enter Try.func16, Try.ntmps16
  go_wp2_with (go_at_call 34; refine (haveRoots_no n l H.out _).mono ?_; rintro r w1 ⟨rfl, b1⟩)
  go_ret2
  exact ⟨none, 0, rfl, Sl.nil _ _ _ (Nat.le_refl _) _, b1⟩
theorem RootsFor_spec_ok (n l : Nat) (h1 : 1 ≤ n) (h2 : n ≤ 16) (hl : primeN l = true) (hf : fullN l n = true) (w : World) :
    Calls Try.prog 15 #[.int .i64 (n : Int), .int .i64 (l : Int)] w fun r w' => ∃ a k, r = .returned (.tuple #[.slice a (roots n l).length k, .int .i64 0]) ∧ Sl true w' w.heap.size w'.heap.size (.slice a (roots n l).length k) (roots n l).length (rtF (roots n l)) ∧ Below w.heap.size w w' := by
  have HL := Lib.hid hl
  have HF := Lib.hid hf
  clear hl hf
  go_enter Try.func15, Try.ntmps15
  go_wp2_with (first
    | (go_at_call 27; refine (l07Code_yes n l h1 h2 HL.out _).mono ?_; rintro r w1 ⟨rfl, m1, rfl⟩)
    | (go_at_call 32; refine (l07Fully_any n l h1 h2 HL.out _).mono ?_; rintro r w3 ⟨rfl, rfl⟩; rw [HF.out])
    | (go_at_call 33; refine (l07Roots_any n l h1 h2 HL.out _).mono ?_; rintro r w2 ⟨a2, k2, rfl, s2, b2⟩))
  go_ret2
  exact ⟨a2, k2, rfl, s2, (below_drewN (Below.refl _ _) _).trans b2⟩
theorem RootsFor_spec_bad (n l : Int) (h : ¬ FuP n l) (w : World) :
    Calls Try.prog 15 #[.int .i64 n, .int .i64 l] w fun r w' => ∃ a k, r = .returned (.tuple #[.slice a 0 k, .int .i64 2]) ∧ Sl true w' w.heap.size w'.heap.size (.slice a 0 k) 0 (fun _ => 0) ∧ Below w.heap.size w w' := by
  by_cases hs : SpP n l
  · have HF := Lib.hid (show fullN l.toNat n.toNat = false by
      cases e : fullN l.toNat n.toNat with
      | false => rfl
      | true => exact absurd ⟨hs, e⟩ h)
    clear h
    obtain ⟨N, L, rfl, rfl, h1, h2, hl⟩ := hs.nat
    rw [Int.toNat_natCast, Int.toNat_natCast] at HF
    have HL := Lib.hid hl
    clear hl hs
    go_enter Try.func15, Try.ntmps15
    go_wp2_with (first
      | (go_at_call 27; refine (l07Code_yes N L h1 h2 HL.out _).mono ?_; rintro r w1 ⟨rfl, m1, rfl⟩)
      | (go_at_call 32; refine (l07Fully_any N L h1 h2 HL.out _).mono ?_; rintro r w3 ⟨rfl, rfl⟩; rw [HF.out]))
    go_ret2
    exact ⟨none, 0, rfl, Sl.nil _ _ _ (Nat.le_refl _) _, below_drewN (Below.refl _ _) _⟩
  · have H := Lib.hid hs
    clear h hs
    go_enter Try.func15, Try.ntmps15
    go_wp2_with (go_at_call 27; refine (l07Code_no n l H.out _).mono ?_; rintro r w1 ⟨rfl, m1, rfl⟩)
    go_ret2
    exact ⟨none, 0, rfl, Sl.nil _ _ _ (Nat.le_refl _) _, below_drewN (Below.refl _ _) _⟩
end Go.Proofs.Ythookppmclimkaa
