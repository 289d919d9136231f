/- Reduction by the cyclotomic polynomial: reducedParts, arrayOf, cycloWithin. -/
import Derived.Test.YtnhpodlcgkgpbaaCycSpec
import Derived.Test.YtnhpodlcgkgpbaaState
import Derived.Test.YtnhpodlcgkgpbaaSet
import Derived.Laws.Cover3
namespace Go.Proofs.Ytnhpodlcgkgpbaa
open Go.RowKit Go.ChangeShapes Go.Sort

/-- What is left of a list of 24 numbers by the cyclotomic polynomial of n. -/
def redP (n : Nat) (P : Nat → Int) : Nat → Int := divL (cyc n) (phiN n) (24 - phiN n) P
/-- An array of twelve. -/
def arrV (f : Nat → Int) : Value := .agg #[.int .i64 (f 0), .int .i64 (f 1), .int .i64 (f 2), .int .i64 (f 3), .int .i64 (f 4), .int .i64 (f 5), .int .i64 (f 6), .int .i64 (f 7), .int .i64 (f 8), .int .i64 (f 9), .int .i64 (f 10), .int .i64 (f 11)]
def cut (n : Nat) (f : Nat → Int) : Nat → Int := fun j => if j < n then f j else 0

theorem phi_le12 : ∀ n, n ≤ 16 → 1 ≤ n → phiN n ≤ 12 := by decide +kernel
theorem Try.zero2 (w : World) : (zeroValue 2).run Try.prog w = .ok (.int .i64 0) w := by kernel_rfl

section
variable {o : Bool} {lo hi : Nat} {v : Value} {P : Nat → Int}
set_option maxRecDepth 100000 in
set_option maxHeartbeats 1000000 in
theorem reducedParts_any (n : Nat) (h1 : 1 ≤ n) (hn : n ≤ 16) (w : World) (hs : Sl true w lo hi v 24 P) :
    Calls Try.prog 177 #[.int .i64 (n : Int), v] w fun e w' => e = .returned (arrV (cut (phiN n) (redP n P))) ∧ Frame lo hi w w' := by
  obtain ⟨g1, off1, c1, rfl, hg1, hg1', _⟩ := hs.at (by omega)
  have hg1s : g1 < w.heap.size := Nat.lt_of_lt_of_le hg1' hs.size
  have hphi := phi_le12 n hn h1
  have HS := Lib.hid hs; clear hs
  go_enter Try.func177, Try.ntmps177
  go_wp2_with fail
  refine (polynomialOf_any n (by omega) h1 _).mono ?_
  rintro e w1 ⟨a1, k1, rfl, s1, b1⟩
  have HS1 := Lib.hid s1; clear s1
  have HP1 := Lib.hid ((HS.out.alloc (.cells #[.int .i64 0, .int .i64 0, .int .i64 0, .int .i64 0, .int .i64 0, .int .i64 0, .int .i64 0, .int .i64 0, .int .i64 0, .int .i64 0, .int .i64 0, .int .i64 0] 136)).keep b1 (Nat.le_trans HS.out.size (by simp)))
  go_wp2_with fail
  refine (divideList_any (phiN n) w1 HP1.out HS1.out (.inl (Nat.le_trans HS.out.size (by simp)))).mono ?_
  rintro e w2 ⟨rfl, s2, f2⟩
  have HS2 := Lib.hid s2; clear s2
  have hcl := run_clear_ints (P := Try.prog) HS2.out (phiN n) (24 - phiN n) (c1 - phiN n) (by omega) (by omega) 22 2 0 Try.underlying22 (Try.zero2 _)
  have HS3 := Lib.hid (HS2.out.setInts (phiN n) (24 - phiN n) (by omega) (fun _ => 0) (fun j _ => by simp [inR]))
  have F3 := Lib.hid (Frame.setCells hg1 hg1' (ints (24 - phiN n) (fun _ => 0)) (off1 + phiN n) _ _ (Frame.refl lo hi w2))
  have hcell : ∀ j, j < 12 → (w2.setCells g1 (off1 + phiN n) (ints (24 - phiN n) (fun _ => 0))).cell? ⟨g1, off1 + j, none⟩ = some (.int .i64 (cut (phiN n) (redP n P) j)) := fun j hj => by
    rw [(HS3.out.known (by omega)).2.2.2.1 j (by omega)]
    unfold cut redP
    by_cases e : j < phiN n
    · rw [if_pos e, if_neg (by omega)]
    · rw [if_neg e, if_pos (by omega)]
  have hsz : w.heap.size + 1 ≤ w1.heap.size := by have := b1.size; simpa using this
  have HBx := ((((Box.made w _ 136 [.int .i64 0, .int .i64 0, .int .i64 0, .int .i64 0, .int .i64 0, .int .i64 0, .int .i64 0, .int .i64 0, .int .i64 0, .int .i64 0, .int .i64 0, .int .i64 0] (fun j v h => by simpa using h)).keep b1).keepF f2 (.inr HS.out.size)).keepF F3.out (.inr HS.out.size))
  have FF : Frame lo hi w (w2.setCells g1 (off1 + phiN n) (ints (24 - phiN n) (fun _ => 0))) := (((Frame.refl lo hi w).alloc _).trans (Frame.of_below b1 (Nat.le_refl _))).trans (f2.trans F3.out)
  generalize w2.setCells g1 (off1 + phiN n) (ints (24 - phiN n) (fun _ => 0)) = w3 at *
  have d0 := hcell 0 (by omega)
  have e0 := HBx.2.1 0 _ rfl
  have d1 := hcell 1 (by omega)
  have e1 := HBx.2.1 1 _ rfl
  have d2 := hcell 2 (by omega)
  have e2 := HBx.2.1 2 _ rfl
  have d3 := hcell 3 (by omega)
  have e3 := HBx.2.1 3 _ rfl
  have d4 := hcell 4 (by omega)
  have e4 := HBx.2.1 4 _ rfl
  have d5 := hcell 5 (by omega)
  have e5 := HBx.2.1 5 _ rfl
  have d6 := hcell 6 (by omega)
  have e6 := HBx.2.1 6 _ rfl
  have d7 := hcell 7 (by omega)
  have e7 := HBx.2.1 7 _ rfl
  have d8 := hcell 8 (by omega)
  have e8 := HBx.2.1 8 _ rfl
  have d9 := hcell 9 (by omega)
  have e9 := HBx.2.1 9 _ rfl
  have d10 := hcell 10 (by omega)
  have e10 := HBx.2.1 10 _ rfl
  have d11 := hcell 11 (by omega)
  have e11 := HBx.2.1 11 _ rfl
  have hfz := HBx.2.2
  have hlt := HBx.1
  clear hcell HBx
  rw [Nat.add_zero] at d0
  have haa := fun w => run_arrayAt (P := Try.prog) (w := w) 136 2 12 (some ⟨g1, off1, none⟩) 12 c1 Try.underlying136 (Nat.le_refl _)
  generalize hcc : cut (phiN n) (redP n P) = cc at *
  have HCC := Lib.hid hcc; clear hcc
  go_wp2
  refine bodyPost_ret (v := arrV cc) (by simp [results, Try.results177, go_sem, arrV, e0, e1, e2, e3, e4, e5, e6, e7, e8, e9, e10, e11]) rfl ?_
  refine ⟨by rw [HCC.out], ?_⟩
  repeat' (first | (with_reducible exact FF) | (with_reducible refine Frame.setNew ?_ (Nat.le_refl _) _))
end
end Go.Proofs.Ytnhpodlcgkgpbaa
