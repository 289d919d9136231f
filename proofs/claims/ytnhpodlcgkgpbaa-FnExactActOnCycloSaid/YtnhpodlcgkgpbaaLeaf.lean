/- Contracts of the small functions over slices: limits, numbers, copies. -/
import Derived.Test.YtnhpodlcgkgpbaaMem
import Derived.Lib.QuietBelow
import Derived.WalkSpells
namespace Go.Proofs.Ytnhpodlcgkgpbaa
open Go.RowKit Go.ChangeShapes Go.Sort

/-- All n numbers have absolute values of at most L. -/
def Within (f : Nat → Int) (n : Nat) (L : Int) : Prop := ∀ j, j < n → -L ≤ f j ∧ f j ≤ L

theorem isWithin_yes (x L : Int) (w : World) (hL : 0 ≤ L) (hL' : L ≤ 9223372036854775807) (h : -L ≤ x) (h' : x ≤ L) :
    Calls Try.prog 107 #[.int .i64 x, .int .i64 L] w fun e w' => e = .returned (.bool true) ∧ w = w' := by
  go_enter Try.func107, Try.ntmps107
  go_wp2
  go_ret
  exact ⟨rfl, rfl⟩
theorem isWithin_no (x L : Int) (w : World) (hL : 0 ≤ L) (hL' : L ≤ 9223372036854775807) (h : x < -L ∨ L < x) :
    Calls Try.prog 107 #[.int .i64 x, .int .i64 L] w fun e w' => e = .returned (.bool false) ∧ w = w' := by
  by_cases h1 : x < -L
  · clear h
    go_enter Try.func107, Try.ntmps107
    go_wp2
    go_ret
    exact ⟨rfl, rfl⟩
  · have h2 : L < x := by omega
    have h3 : -L ≤ x := by omega
    clear h h1
    go_enter Try.func107, Try.ntmps107
    go_wp2
    go_ret
    exact ⟨by simp; omega, rfl⟩

theorem areWithin_yes {o : Bool} {lo hi : Nat} {v : Value} {n : Nat} {f : Nat → Int} (L : Int) (w : World) (hL : 0 ≤ L) (hL' : L ≤ 9223372036854775807) (hs : Sl o w lo hi v n f) (h : Within f n L) :
    Calls Try.prog 168 #[v, .int .i64 L] w fun e w' => e = .returned (.bool true) ∧ w = w' := by
  have hm := hs.len
  unfold maxLen at hm
  obtain ⟨a, cap, rfl⟩ := hs.shape
  have HS := Lib.hid hs; clear hs
  have HW := Lib.hid h; clear h
  go_enter Try.func168, Try.ntmps168
  go_wp2
  go_loop [9] (fun i => ∃ k : Nat, k ≤ n ∧ i = .int .i64 k) (fun i => n - (intOf i).toNat)
  case atStart => exact ⟨0, Nat.zero_le _, rfl⟩
  case round =>
    obtain ⟨k, hk, rfl⟩ := hrel
    by_cases hlt : k < n
    · obtain ⟨g, off, cap', hv, _, _, _, _, hc, _⟩ := HS.out.at (by omega)
      obtain ⟨rfl, rfl⟩ : a = some ⟨g, off, none⟩ ∧ cap = cap' := by cases hv; exact ⟨rfl, rfl⟩
      clear hv
      have hck := hc k hlt
      clear hc
      obtain ⟨hw1, hw2⟩ := HW.out k hlt
      go_wp2_with (go_at_call 107; refine (isWithin_yes _ _ _ hL hL' (by omega) (by omega)).mono ?_; rintro e w' ⟨rfl, rfl⟩)
      go_round
      case rel => exact ⟨k + 1, by omega, by go_num⟩
      case measure => simp [intOf]; omega
    · go_wp2
      go_ret
      exact ⟨rfl, rfl⟩

theorem areWithin_no {o : Bool} {lo hi : Nat} {v : Value} {n : Nat} {f : Nat → Int} (L : Int) (w : World) (hL : 0 ≤ L) (hL' : L ≤ 9223372036854775807) (hs : Sl o w lo hi v n f) (h : ¬ Within f n L) :
    Calls Try.prog 168 #[v, .int .i64 L] w fun e w' => e = .returned (.bool false) ∧ w = w' := by
  have hm := hs.len
  unfold maxLen at hm
  obtain ⟨a, cap, rfl⟩ := hs.shape
  have HS := Lib.hid hs; clear hs
  have HW := Lib.hid h; clear h
  go_enter Try.func168, Try.ntmps168
  go_wp2
  go_loop [9] (fun i => ∃ k : Nat, k ≤ n ∧ i = .int .i64 k ∧ Within f k L) (fun i => n - (intOf i).toNat)
  case atStart => exact ⟨0, Nat.zero_le _, rfl, fun j hj => absurd hj (Nat.not_lt_zero _)⟩
  case round =>
    obtain ⟨k, hk, rfl, hwk⟩ := hrel
    have HK := Lib.hid hwk; clear hwk
    by_cases hlt : k < n
    · obtain ⟨g, off, cap', hv, _, _, _, _, hc, _⟩ := HS.out.at (by omega)
      obtain ⟨rfl, rfl⟩ : a = some ⟨g, off, none⟩ ∧ cap = cap' := by cases hv; exact ⟨rfl, rfl⟩
      clear hv
      have hck := hc k hlt
      clear hc
      by_cases hw : -L ≤ f k ∧ f k ≤ L
      · obtain ⟨hw1, hw2⟩ := hw
        go_wp2_with (go_at_call 107; refine (isWithin_yes _ _ _ hL hL' (by omega) (by omega)).mono ?_; rintro e w' ⟨rfl, rfl⟩)
        go_round
        case rel => exact ⟨k + 1, by omega, by go_num, fun j hj => by
          by_cases e : j = k
          · subst e; exact ⟨hw1, hw2⟩
          · exact HK.out j (by omega)⟩
        case measure => simp [intOf]; omega
      · have hw' : f k < -L ∨ L < f k := by omega
        have HW' := Lib.hid hw'
        clear hw hw'
        go_wp2_with (go_at_call 107; refine (isWithin_no _ _ _ hL hL' HW'.out).mono ?_; rintro e w' ⟨rfl, rfl⟩)
        go_ret
        exact ⟨rfl, rfl⟩
    · exact absurd (show Within f n L from fun j hj => HK.out j (by omega)) HW.out

theorem l01Fits_yes {o : Bool} {lo hi : Nat} {v : Value} {n : Nat} {f : Nat → Int} (x : Int) (w : World) (hs : Sl o w lo hi v n f) (h : Within f n 1000000000) :
    Calls Try.prog 164 #[.agg #[.int .i64 x, v]] w fun e w' => e = .returned (.bool true) ∧ Below w.heap.size w w' := by
  have hm := hs.len
  unfold maxLen at hm
  obtain ⟨a, cap, rfl⟩ := hs.shape
  have HS := Lib.hid hs; clear hs
  have HW := Lib.hid h; clear h
  go_enter Try.func164, Try.ntmps164
  go_wp2
  go_loop [3] (fun i => ∃ k : Nat, k ≤ n ∧ i = .int .i64 k) (fun i => n - (intOf i).toNat)
  case atStart => exact ⟨0, Nat.zero_le _, rfl⟩
  case round =>
    obtain ⟨k, hk, rfl⟩ := hrel
    by_cases hlt : k < n
    · obtain ⟨g, off, cap', hv, _, hg, _, _, hc, _⟩ := HS.out.at (by omega)
      have hgs : g < w.heap.size := Nat.lt_of_lt_of_le hg HS.out.size
      obtain ⟨rfl, rfl⟩ : a = some ⟨g, off, none⟩ ∧ cap = cap' := by cases hv; exact ⟨rfl, rfl⟩
      clear hv hg
      have hck := hc k hlt
      clear hc
      obtain ⟨hw1, hw2⟩ := HW.out k hlt
      go_wp2_with (go_at_call 101; refine (l01In_yes _ _ _ _ (by omega) (by omega)).mono ?_; rintro e w' ⟨rfl, rfl⟩)
      go_round
      case rel => exact ⟨k + 1, by omega, by go_num⟩
      case measure => simp [intOf]; omega
    · go_wp2
      go_ret
      exact ⟨rfl, (Below.refl _ _).alloc (Nat.le_refl _) _⟩

theorem l01Fits_no {o : Bool} {lo hi : Nat} {v : Value} {n : Nat} {f : Nat → Int} (x : Int) (w : World) (hs : Sl o w lo hi v n f) (h : ¬ Within f n 1000000000) :
    Calls Try.prog 164 #[.agg #[.int .i64 x, v]] w fun e w' => e = .returned (.bool false) ∧ Below w.heap.size w w' := by
  have hm := hs.len
  unfold maxLen at hm
  obtain ⟨a, cap, rfl⟩ := hs.shape
  have HS := Lib.hid hs; clear hs
  have HW := Lib.hid h; clear h
  go_enter Try.func164, Try.ntmps164
  go_wp2
  go_loop [3] (fun i => ∃ k : Nat, k ≤ n ∧ i = .int .i64 k ∧ Within f k 1000000000) (fun i => n - (intOf i).toNat)
  case atStart => exact ⟨0, Nat.zero_le _, rfl, fun j hj => absurd hj (Nat.not_lt_zero _)⟩
  case round =>
    obtain ⟨k, hk, rfl, hwk⟩ := hrel
    have HK := Lib.hid hwk; clear hwk
    by_cases hlt : k < n
    · obtain ⟨g, off, cap', hv, _, hg, _, _, hc, _⟩ := HS.out.at (by omega)
      have hgs : g < w.heap.size := Nat.lt_of_lt_of_le hg HS.out.size
      obtain ⟨rfl, rfl⟩ : a = some ⟨g, off, none⟩ ∧ cap = cap' := by cases hv; exact ⟨rfl, rfl⟩
      clear hv hg
      have hck := hc k hlt
      clear hc
      by_cases hw : -1000000000 ≤ f k ∧ f k ≤ 1000000000
      · obtain ⟨hw1, hw2⟩ := hw
        go_wp2_with (go_at_call 101; refine (l01In_yes _ _ _ _ (by omega) (by omega)).mono ?_; rintro e w' ⟨rfl, rfl⟩)
        go_round
        case rel => exact ⟨k + 1, by omega, by go_num, fun j hj => by
          by_cases e : j = k
          · subst e; exact ⟨hw1, hw2⟩
          · exact HK.out j (by omega)⟩
        case measure => simp [intOf]; omega
      · have hw' : f k < -1000000000 ∨ 1000000000 < f k := by omega
        have HW' := Lib.hid hw'
        clear hw hw'
        go_wp2_with (go_at_call 101; refine (l01In_no _ _ _ _ HW'.out).mono ?_; rintro e w' ⟨rfl, rfl⟩)
        go_ret
        exact ⟨rfl, (Below.refl _ _).alloc (Nat.le_refl _) _⟩
    · exact absurd (show Within f n 1000000000 from fun j hj => HK.out j (by omega)) HW.out
end Go.Proofs.Ytnhpodlcgkgpbaa
