/- Chapter 8 of the model: CountSolutions and CountFull. -/
import Derived.Test.YtacffobbbcfbcaaDoorEqU
namespace Go.Proofs.YtacffobbbcfbcaaDoor
open Go.RowKit Go.ChangeShapes Go.Sort
set_option linter.unusedVariables false
set_option linter.unusedSimpArgs false
set_option maxRecDepth 100000
section
variable {o o' : Bool} {lo hi lo' hi' : Nat} {v v' : Value} {n m : Nat} {fa fe : Nat → Int}
theorem CountSolutions_spec_ok (p B : Nat) (hp : primeN p = true) (hB : B < p) (h1 : 1 ≤ n) (h2 : n ≤ 4) (h : ∀ i, i < n → 1 ≤ fa i ∧ fa i < (p : Int) ∧ 1 ≤ fe i ∧ fe i ≤ 60) (w : World) (hs : Sl o w lo hi v n fa) (ht : Sl o' w lo' hi' v' n fe) :
    Calls Tryd.prog 19 #[.int .i64 (p : Int), v, v', .int .i64 (B : Int)] w fun e w' => e = .returned (.tuple #[.int .i64 (solT p fa fe 0 n B), .int .i64 0]) ∧ Below w.heap.size w w' := by
  have HP := Lib.hid hp
  have H := Lib.hid h
  obtain ⟨a1, k1, rfl⟩ := hs.shape
  obtain ⟨a2, k2, rfl⟩ := ht.shape
  have hs1 := hs.size
  have hs2 := ht.size
  have HS := Lib.hid hs
  have HT := Lib.hid ht
  clear hs ht hp h
  go_enter Tryd.func19, Tryd.ntmps19
  go_wp2_with (first
    | (go_at_call 62; refine (l08Given_yes p _ HP.out (by omega) (by omega) h1 h2 H.out _ HS.out HT.out).mono ?_; rintro e w1 ⟨rfl, b1⟩)
    | (go_at_call 63; refine (l08Count_false p B HP.out hB h2 h1 H.out _ (HS.out.keep b1 hs1) (HT.out.keep b1 hs2)).mono ?_; rintro e w2 ⟨rfl, b2⟩))
  go_ret2
  exact ⟨rfl, b1.trans (b2.mono b1.size)⟩
theorem CountSolutions_spec_no (p b : Int) (w : World) (hs : Sl o w lo hi v n fa) (ht : Sl o' w lo' hi' v' m fe) (h : ¬ ((PrP p ∧ 1 ≤ n ∧ n ≤ 4 ∧ m = n ∧ ∀ i, i < n → 1 ≤ fa i ∧ fa i < p ∧ 1 ≤ fe i ∧ fe i ≤ 60) ∧ 0 ≤ b ∧ b < p)) :
    Calls Tryd.prog 19 #[.int .i64 p, v, v', .int .i64 b] w fun e w' => e = .returned (.tuple #[.int .i64 0, .int .i64 2]) ∧ Below w.heap.size w w' := by
  have H := Lib.hid h
  obtain ⟨a1, k1, rfl⟩ := hs.shape
  obtain ⟨a2, k2, rfl⟩ := ht.shape
  have HS := Lib.hid hs
  have HT := Lib.hid ht
  clear hs ht h
  go_enter Tryd.func19, Tryd.ntmps19
  go_wp2_with (go_at_call 62; refine (l08Given_no p b _ HS.out HT.out H.out).mono ?_; rintro e w1 ⟨rfl, b1⟩)
  go_ret2
  exact ⟨rfl, b1⟩
theorem CountFull_spec_ok (p B : Nat) (hp : primeN p = true) (hB : B < p) (h1 : 1 ≤ n) (h2 : n ≤ 4) (h : ∀ i, i < n → 1 ≤ fa i ∧ fa i < (p : Int) ∧ 1 ≤ fe i ∧ fe i ≤ 60) (w : World) (hs : Sl o w lo hi v n fa) (ht : Sl o' w lo' hi' v' n fe) :
    Calls Tryd.prog 21 #[.int .i64 (p : Int), v, v', .int .i64 (B : Int)] w fun e w' => e = .returned (.tuple #[.int .i64 (solT p fa fe 1 n B), .int .i64 0]) ∧ Below w.heap.size w w' := by
  have HP := Lib.hid hp
  have H := Lib.hid h
  obtain ⟨a1, k1, rfl⟩ := hs.shape
  obtain ⟨a2, k2, rfl⟩ := ht.shape
  have hs1 := hs.size
  have hs2 := ht.size
  have HS := Lib.hid hs
  have HT := Lib.hid ht
  clear hs ht hp h
  go_enter Tryd.func21, Tryd.ntmps21
  go_wp2_with (first
    | (go_at_call 62; refine (l08Given_yes p _ HP.out (by omega) (by omega) h1 h2 H.out _ HS.out HT.out).mono ?_; rintro e w1 ⟨rfl, b1⟩)
    | (go_at_call 63; refine (l08Count_true p B HP.out hB h2 h1 H.out _ (HS.out.keep b1 hs1) (HT.out.keep b1 hs2)).mono ?_; rintro e w2 ⟨rfl, b2⟩))
  go_ret2
  exact ⟨rfl, b1.trans (b2.mono b1.size)⟩
theorem CountFull_spec_no (p b : Int) (w : World) (hs : Sl o w lo hi v n fa) (ht : Sl o' w lo' hi' v' m fe) (h : ¬ ((PrP p ∧ 1 ≤ n ∧ n ≤ 4 ∧ m = n ∧ ∀ i, i < n → 1 ≤ fa i ∧ fa i < p ∧ 1 ≤ fe i ∧ fe i ≤ 60) ∧ 0 ≤ b ∧ b < p)) :
    Calls Tryd.prog 21 #[.int .i64 p, v, v', .int .i64 b] w fun e w' => e = .returned (.tuple #[.int .i64 0, .int .i64 2]) ∧ Below w.heap.size w w' := by
  have H := Lib.hid h
  obtain ⟨a1, k1, rfl⟩ := hs.shape
  obtain ⟨a2, k2, rfl⟩ := ht.shape
  have HS := Lib.hid hs
  have HT := Lib.hid ht
  clear hs ht h
  go_enter Tryd.func21, Tryd.ntmps21
  go_wp2_with (go_at_call 62; refine (l08Given_no p b _ HS.out HT.out H.out).mono ?_; rintro e w1 ⟨rfl, b1⟩)
  go_ret2
  exact ⟨rfl, b1⟩
end
end Go.Proofs.YtacffobbbcfbcaaDoor
