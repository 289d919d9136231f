/- CycloOf of the model. -/
import Derived.Test.YtbmjhniinfeebaaCycloOf
namespace Go.Proofs.Ytbmjhniinfeebaa
open Go.RowKit Go.ChangeShapes Go.Sort
section
variable {o : Bool} {lo hi L : Nat} {v : Value} {f : Nat → Int}
theorem CycloOf_spec_bad (n : Int) (w : World) (hs : Sl o w lo hi v L f) (h : ¬ cycloOfOk n L f) :
    Calls Try.prog 48 #[.int .i64 n, v] w fun e w' => e = .returned (failV 2) ∧ Below w.heap.size w w' := by
  obtain ⟨a, cap, rfl⟩ := hs.shape
  have hm := hs.len
  unfold maxLen at hm
  have HS := Lib.hid hs; clear hs
  by_cases h1 : 1 ≤ n ∧ n ≤ 16
  · obtain ⟨h1, h2⟩ := h1
    by_cases h3 : (L : Int) ≤ n
    · have H := Lib.hid (show ¬ Within f L 1000000000 from fun h4 => h ⟨h1, h2, h3, h4⟩)
      clear h
      go_enter Try.func48, Try.ntmps48
      go_wp2_with (go_at_call 67; refine (l01In_yes _ _ _ _ (by omega) (by omega)).mono ?_; rintro e w' ⟨rfl, rfl⟩)
      go_loop [6] (fun s6 => ∃ k : Nat, k ≤ L ∧ s6 = .int .i64 k ∧ Within f k 1000000000) (fun s6 => L - (intOf s6).toNat)
      case atStart => exact ⟨0, Nat.zero_le _, rfl, fun j hj => absurd hj (Nat.not_lt_zero _)⟩
      case round =>
        obtain ⟨k, hk, rfl, hwk⟩ := hrel
        have HK := Lib.hid hwk; clear hwk
        by_cases hlt : k < L
        · obtain ⟨g, off, c1, hv, _, hg, _, _, hc, _⟩ := HS.out.at (by omega)
          have hgs : g < w.heap.size := Nat.lt_of_lt_of_le hg HS.out.size
          obtain ⟨rfl, rfl⟩ : a = some ⟨g, off, none⟩ ∧ cap = c1 := by cases hv; exact ⟨rfl, rfl⟩
          clear hv hg
          have hck := hc k hlt
          clear hc
          by_cases hw : -1000000000 ≤ f k ∧ f k ≤ 1000000000
          · obtain ⟨hw1, hw2⟩ := hw
            go_wp2_with (go_at_call 67; refine (l01In_yes _ _ _ _ (by omega) (by omega)).mono ?_; rintro e w' ⟨rfl, rfl⟩)
            go_round
            case rel => exact ⟨k + 1, by omega, by go_num, fun j hj => by
              by_cases e : j = k
              · subst e; exact ⟨hw1, hw2⟩
              · exact HK.out j (by omega)⟩
            case measure => simp [intOf] <;> omega
          · have HH := Lib.hid (show f k < -1000000000 ∨ 1000000000 < f k by omega)
            clear hw
            go_wp2_with (go_at_call 67; refine (l01In_no _ _ _ _ HH.out).mono ?_; rintro e w' ⟨rfl, rfl⟩)
            refine bodyPost_ret (v := failV 2) (by simp [results, Try.results48, go_sem, failV]) rfl ?_
            exact ⟨rfl, by go_grown⟩
        · exact absurd (show Within f L 1000000000 from fun j hj => HK.out j (by omega)) H.out
    · have h4 : n < (L : Int) := by omega
      clear h h3
      go_enter Try.func48, Try.ntmps48
      go_wp2_with (go_at_call 67; refine (l01In_yes _ _ _ _ (by omega) (by omega)).mono ?_; rintro e w' ⟨rfl, rfl⟩)
      refine bodyPost_ret (v := failV 2) (by simp [results, Try.results48, go_sem, failV]) rfl ?_
      exact ⟨rfl, by go_grown⟩
  · have H := Lib.hid (show n < 1 ∨ 16 < n by omega)
    clear h h1
    go_enter Try.func48, Try.ntmps48
    go_wp2_with (go_at_call 67; refine (l01In_no _ _ _ _ H.out).mono ?_; rintro e w' ⟨rfl, rfl⟩)
    refine bodyPost_ret (v := failV 2) (by simp [results, Try.results48, go_sem, failV]) rfl ?_
    exact ⟨rfl, by go_grown⟩

set_option maxRecDepth 100000 in
set_option maxHeartbeats 1000000 in
theorem CycloOf_spec_ok (n : Nat) (w : World) (hs : Sl o w lo hi v L f) (h : cycloOfOk n L f) (hw : Within (redP n (pad L f)) (phiN n) 1000000000) :
    Calls Try.prog 48 #[.int .i64 (n : Int), v] w fun e w' => ∃ a cap, e = .returned (.tuple #[.agg #[.int .i64 (n : Int), .slice a (phiN n) cap], .int .i64 0]) ∧ Sl true w' w.heap.size w'.heap.size (.slice a (phiN n) cap) (phiN n) (redP n (pad L f)) ∧ Below w.heap.size w w' := by
  obtain ⟨a, cap, rfl⟩ := hs.shape
  obtain ⟨h1, h2, h3, h4⟩ := h
  have hsz := hs.size
  have HW := Lib.hid hw; clear hw
  have st0 := ((((St.start w).addSl ⟨o, lo, hi, .slice a L cap, L, f⟩ hs).alloc (.cells #[.int .i64 0, .slice none 0 0] 26)).addBox w.heap.size [.int .i64 0, .slice none 0 0] (Box.made _ _ _ _ (fun j v h => by simpa using h)))
  have HS := Lib.hid hs; clear hs
  have H := Lib.hid h4; clear h4
  have hd : decide (n < L) = false := by simp; omega
  go_enter Try.func48, Try.ntmps48
  go_wp2_with (go_at_call 67; refine (l01In_yes _ _ _ _ (by omega) (by omega)).mono ?_; rintro e w' ⟨rfl, rfl⟩)
  go_loop [6] (fun s6 => ∃ k : Nat, k ≤ L ∧ s6 = .int .i64 k ∧ Within f k 1000000000) (fun s6 => L - (intOf s6).toNat)
  case atStart => exact ⟨0, Nat.zero_le _, rfl, fun j hj => absurd hj (Nat.not_lt_zero _)⟩
  case round =>
    obtain ⟨k, hk, rfl, hwk⟩ := hrel
    have HK := Lib.hid hwk; clear hwk
    by_cases hlt : k < L
    · obtain ⟨g, off, c1, hv, _, hg, _, _, hc, _⟩ := HS.out.at (by omega)
      have hgs : g < w.heap.size := Nat.lt_of_lt_of_le hg HS.out.size
      obtain ⟨rfl, rfl⟩ : a = some ⟨g, off, none⟩ ∧ cap = c1 := by cases hv; exact ⟨rfl, rfl⟩
      clear hv hg
      have hck := hc k hlt
      clear hc
      obtain ⟨hw1, hw2⟩ := H.out k hlt
      go_wp2_with (go_at_call 67; refine (l01In_yes _ _ _ _ (by omega) (by omega)).mono ?_; rintro e w' ⟨rfl, rfl⟩)
      go_round
      case rel => exact ⟨k + 1, by omega, by go_num, fun j hj => H.out j (by omega)⟩
      case measure => simp [intOf] <;> omega
    · have q0 := st0.sl 0 _ rfl
      dsimp only at q0
      go_wp2_with fail
      refine (l01Reduce_any n (by omega) (by omega) _ q0 (by omega)).mono ?_
      rintro e w1 ⟨a1, k1, rfl, s1, b1⟩
      have hz1 := b1.size
      simp only [World.size_alloc] at hz1 s1
      have st1 := (st0.keep b1).addSl ⟨true, w.heap.size + 1, w1.heap.size, .slice a1 (phiN n) k1, phiN n, redP n (pad L f)⟩ s1
      clear st0 q0 s1 b1
      have q1 := st1.sl 0 _ rfl
      dsimp only at q1
      go_wp2_with fail
      refine (l01Told_yes _ _ q1 HW.out).mono ?_
      rintro e w2 ⟨rfl, b2⟩
      have st2 := (st1.keep b2).alloc (.cells #[.int .i64 (n : Int), .slice a1 (phiN n) k1] 26)
      have hz2 := b2.size
      have hn1 := World.size_alloc w2 (.cells #[.int .i64 (n : Int), .slice a1 (phiN n) k1] 26)
      clear st1 b2 q1
      obtain ⟨d0, d1⟩ := (st2.box 0 _ rfl).cell2
      have dz := (st2.box 0 _ rfl).2.2
      have S2 := Lib.hid (st2.sl 0 _ rfl)
      have B2 := st2.1
      dsimp only at dz
      clear hn1
      go_wp2
      refine bodyPost_ret (v := .tuple #[.agg #[.int .i64 (n : Int), .slice a1 (phiN n) k1], .int .i64 0]) (by simp [results, Try.results48, go_sem, d0, d1]) rfl ?_
      refine ⟨_, _, rfl, ?_, by go_grown⟩
      exact ((S2.out.setOther (.inl (by show w.heap.size < _; omega)) _).setOther (.inl (by show w.heap.size < _; omega)) _).wide (by omega) (by simp; omega) (Nat.le_refl _)

set_option maxRecDepth 100000 in
set_option maxHeartbeats 1000000 in
theorem CycloOf_spec_big (n : Nat) (w : World) (hs : Sl o w lo hi v L f) (h : cycloOfOk n L f) (hw : ¬ Within (redP n (pad L f)) (phiN n) 1000000000) :
    Calls Try.prog 48 #[.int .i64 (n : Int), v] w fun e w' => e = .returned (failV 3) ∧ Below w.heap.size w w' := by
  obtain ⟨a, cap, rfl⟩ := hs.shape
  obtain ⟨h1, h2, h3, h4⟩ := h
  have hsz := hs.size
  have HW := Lib.hid hw; clear hw
  have st0 := ((((St.start w).addSl ⟨o, lo, hi, .slice a L cap, L, f⟩ hs).alloc (.cells #[.int .i64 0, .slice none 0 0] 26)).addBox w.heap.size [.int .i64 0, .slice none 0 0] (Box.made _ _ _ _ (fun j v h => by simpa using h)))
  have HS := Lib.hid hs; clear hs
  have H := Lib.hid h4; clear h4
  have hd : decide (n < L) = false := by simp; omega
  go_enter Try.func48, Try.ntmps48
  go_wp2_with (go_at_call 67; refine (l01In_yes _ _ _ _ (by omega) (by omega)).mono ?_; rintro e w' ⟨rfl, rfl⟩)
  go_loop [6] (fun s6 => ∃ k : Nat, k ≤ L ∧ s6 = .int .i64 k ∧ Within f k 1000000000) (fun s6 => L - (intOf s6).toNat)
  case atStart => exact ⟨0, Nat.zero_le _, rfl, fun j hj => absurd hj (Nat.not_lt_zero _)⟩
  case round =>
    obtain ⟨k, hk, rfl, hwk⟩ := hrel
    have HK := Lib.hid hwk; clear hwk
    by_cases hlt : k < L
    · obtain ⟨g, off, c1, hv, _, hg, _, _, hc, _⟩ := HS.out.at (by omega)
      have hgs : g < w.heap.size := Nat.lt_of_lt_of_le hg HS.out.size
      obtain ⟨rfl, rfl⟩ : a = some ⟨g, off, none⟩ ∧ cap = c1 := by cases hv; exact ⟨rfl, rfl⟩
      clear hv hg
      have hck := hc k hlt
      clear hc
      obtain ⟨hw1, hw2⟩ := H.out k hlt
      go_wp2_with (go_at_call 67; refine (l01In_yes _ _ _ _ (by omega) (by omega)).mono ?_; rintro e w' ⟨rfl, rfl⟩)
      go_round
      case rel => exact ⟨k + 1, by omega, by go_num, fun j hj => H.out j (by omega)⟩
      case measure => simp [intOf] <;> omega
    · have q0 := st0.sl 0 _ rfl
      dsimp only at q0
      go_wp2_with fail
      refine (l01Reduce_any n (by omega) (by omega) _ q0 (by omega)).mono ?_
      rintro e w1 ⟨a1, k1, rfl, s1, b1⟩
      have hz1 := b1.size
      simp only [World.size_alloc] at hz1 s1
      have st1 := (st0.keep b1).addSl ⟨true, w.heap.size + 1, w1.heap.size, .slice a1 (phiN n) k1, phiN n, redP n (pad L f)⟩ s1
      clear st0 q0 s1 b1
      have q1 := st1.sl 0 _ rfl
      dsimp only at q1
      go_wp2_with fail
      refine (l01Told_no _ _ q1 HW.out).mono ?_
      rintro e w2 ⟨rfl, b2⟩
      unfold failV
      have st2 := (st1.keep b2).alloc (.cells #[.int .i64 0, .slice none 0 0] 26)
      have hz2 := b2.size
      clear st1 b2 q1
      obtain ⟨d0, d1⟩ := (st2.box 0 _ rfl).cell2
      have dz := (st2.box 0 _ rfl).2.2
      have B2 := st2.1
      dsimp only at dz
      go_wp2
      refine bodyPost_ret (v := failV 3) (by simp [results, Try.results48, go_sem, failV, d0, d1]) rfl ?_
      exact ⟨rfl, by go_grown⟩

end
end Go.Proofs.Ytbmjhniinfeebaa
