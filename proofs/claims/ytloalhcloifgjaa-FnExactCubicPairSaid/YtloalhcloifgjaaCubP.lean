/- CubicPair of both. -/
import Derived.Test.YtloalhcloifgjaaPairs
namespace Go.Proofs.Ytloalhcloifgjaa
open Go.RowKit Go.ChangeShapes Go.Sort
set_option linter.unusedVariables false
set_option linter.unusedSimpArgs false


/-- The numbers of the cubic pair. -/
def cubP (p : Nat) : Nat → Int := fun j => if j = 0 then 2 * jacP p 3 1 1 0 - jacP p 3 1 1 1 else (jacP p 3 1 1 1).tdiv 3
theorem cubP_zero (p : Nat) : cubP p 0 = 2 * jacP p 3 1 1 0 - jacP p 3 1 1 1 := by unfold cubP; rw [if_pos rfl]
theorem cubP_one (p : Nat) : cubP p 1 = (jacP p 3 1 1 1).tdiv 3 := by unfold cubP; rw [if_neg (by decide)]
theorem cubP_bd {p : Nat} (hp : p ≤ 61) (hp3 : 3 ≤ p) (j : Nat) (_ : j < 2) : inR (cubP p j) := by
  have h0 := jacP_bd (k := 1) (l := 1) hp hp3 (show 3 < 17 from by decide) (show 1 ≤ 3 from by decide) phi30
  have h1 := jacP_bd (k := 1) (l := 1) hp hp3 (show 3 < 17 from by decide) (show 1 ≤ 3 from by decide) phi31
  unfold cubP inR
  split
  · omega
  · have := Int.tdiv_le_tdiv (show 0 < (3 : Int) by omega) h1.2
    have := Int.tdiv_le_tdiv (show 0 < (3 : Int) by omega) h1.1
    have e1 : (178608 : Int).tdiv 3 = 59536 := by decide
    have e2 : (-178608 : Int).tdiv 3 = -59536 := by decide
    omega
section
variable (p : Nat) (hp : primeN p = true)
include hp
set_option maxHeartbeats 1000000 in
theorem CubicPair_impl_ok (hd : (p - 1) % 3 = 0) (w : World) :
    Calls Try.prog 45 #[.int .i64 (p : Int)] w fun e w' => ∃ a cap, e = .returned (.tuple #[.slice a 2 cap, .int .i64 0]) ∧ Sl true w' w.heap.size w'.heap.size (.slice a 2 cap) 2 (cubP p) ∧ Below w.heap.size w w' := by
  have hb := primeN_bd hp
  have HP := Lib.hid (partsOfDouble_ok p 3 hp (by omega) (by omega) hd); clear hp hd
  rw [phi3] at HP
  have HC := Lib.hid (cubP_bd hb.2 hb.1)
  have h0 := jacP_bd (k := 1) (l := 1) hb.2 hb.1 (show 3 < 17 from by decide) (show 1 ≤ 3 from by decide) phi30
  have h1 := jacP_bd (k := 1) (l := 1) hb.2 hb.1 (show 3 < 17 from by decide) (show 1 ≤ 3 from by decide) phi31
  have E0 := Lib.hid (cubP_zero p)
  have E1 := Lib.hid (cubP_one p)
  generalize cubP p = cub at *
  generalize jacP p 3 1 1 = J at *
  go_enter Try.func45, Try.ntmps45
  go_wp2_with fail
  refine (HP.out _).mono ?_
  rintro e w1 ⟨a1, k1, rfl, s1, b1⟩
  obtain ⟨g, off, cap, hv, _, _, _, _, hc, _⟩ := s1.at (by omega)
  obtain ⟨rfl, rfl⟩ : a1 = some ⟨g, off, none⟩ ∧ k1 = cap := by cases hv; exact ⟨rfl, rfl⟩
  have c0 := hc 0 (by omega)
  have c1 := hc 1 (by omega)
  rw [Nat.add_zero] at c0
  clear hv hc s1
  generalize hJ0 : J 0 = j0 at *
  generalize hJ1 : J 1 = j1 at *
  clear hJ0 hJ1
  have hz1 := b1.size
  have q0 := Sl.made w1 #[.int .i64 (2 * j0 - j1), .int .i64 (j1.tdiv 3)] 2 2 2 cub (Nat.le_refl _) (by decide) (fun j hj => HC.out j hj) (fun j hj => by
    rcases (show j = 0 ∨ j = 1 by omega) with rfl | rfl
    · rw [E0.out]; rfl
    · rw [E1.out]; rfl)
  have HQ := Lib.hid q0.drew
  clear q0
  go_wp2
  go_region
  all_goals
    go_wp2
    go_ret2
    exact ⟨_, _, rfl, HQ.out.wide (by omega) (by simp) (by simp), by go_grown⟩
set_option maxRecDepth 100000 in
set_option maxHeartbeats 2000000 in
theorem CubicPair_spec_ok (hd : (p - 1) % 3 = 0) (w : World) :
    Calls Try.prog 44 #[.int .i64 (p : Int)] w fun e w' => ∃ a cap, e = .returned (.tuple #[.slice a 2 cap, .int .i64 0]) ∧ Sl true w' w.heap.size w'.heap.size (.slice a 2 cap) 2 (cubP p) ∧ Below w.heap.size w w' := by
  have hb := primeN_bd hp
  have HL := Lib.hid (l03Prime_yes p hp)
  have HJ := Lib.hid (l04Jacobi_any p 3 1 1 hp (by decide) (by decide) (by decide) (by decide)); clear hp
  rw [phi3] at HJ
  have HC := Lib.hid (cubP_bd hb.2 hb.1)
  have h0 := jacP_bd (k := 1) (l := 1) hb.2 hb.1 (show 3 < 17 from by decide) (show 1 ≤ 3 from by decide) phi30
  have h1 := jacP_bd (k := 1) (l := 1) hb.2 hb.1 (show 3 < 17 from by decide) (show 1 ≤ 3 from by decide) phi31
  have E0 := Lib.hid (cubP_zero p)
  have E1 := Lib.hid (cubP_one p)
  generalize cubP p = cub at *
  generalize jacP p 3 1 1 = J at *
  have hm : (p : Int) % 3 = 1 := by omega
  have hmb : ((p : Int) % 3 != 1) = false := by rw [hm]; rfl
  clear hm
  go_enter Try.func44, Try.ntmps44
  go_wp2_with fail
  refine (HL.out _).mono ?_
  rintro e w1 ⟨rfl, m1, hw1⟩
  have b1 : Below w.heap.size w w1 := by rw [hw1]; exact below_drewN (Below.refl _ _) _
  clear hw1
  have hz1 := b1.size
  have st2 := ((St.start w).keep b1).boxNew3 (.int .i64 (p : Int)) (.int .i64 3) (.int .i64 1) 29
  obtain ⟨f0, f1, f2⟩ := (st2.box 0 (w1.heap.size, [.int .i64 (p : Int), .int .i64 3, .int .i64 1]) rfl).cell3
  clear b1
  go_wp2_with fail
  refine (HJ.out _).mono ?_
  rintro e w3 ⟨a3, k3, rfl, s3, b3⟩
  have hz3 := b3.size
  simp only [World.size_alloc] at hz3 s3
  obtain ⟨g, off, cap, hv, _, _, _, _, _, _⟩ := s3.at (by omega)
  obtain ⟨rfl, rfl⟩ : a3 = some ⟨g, off, none⟩ ∧ k3 = cap := by cases hv; exact ⟨rfl, rfl⟩
  clear hv
  have st3 := (st2.keep b3).addSl ⟨true, w1.heap.size + 1, w3.heap.size, .slice (some ⟨g, off, none⟩) 2 k3, 2, J⟩ s3
  have st4 := st3.boxNew (.int .i64 3) (.slice (some ⟨g, off, none⟩) 2 k3) 26
  obtain ⟨g0, g1⟩ := (st4.box 0 (w3.heap.size, [.int .i64 3, .slice (some ⟨g, off, none⟩) 2 k3]) rfl).cell2
  obtain ⟨_, _, _, hc, _⟩ := (st4.sl 0 ⟨true, w1.heap.size + 1, w3.heap.size, .slice (some ⟨g, off, none⟩) 2 k3, 2, J⟩ rfl).known (by show 0 < 2; omega)
  have c0 := hc 0 (by show 0 < 2; omega)
  have c1 := hc 1 (by show 1 < 2; omega)
  dsimp only at c0 c1
  rw [Nat.add_zero] at c0
  have BB := st4.1
  clear st2 st3 st4 b3 s3 hc f0 f1 f2
  generalize hJ0 : J 0 = j0 at *
  generalize hJ1 : J 1 = j1 at *
  clear hJ0 hJ1
  have q0 := Sl.made (w3.alloc (.cells #[.int .i64 3, .slice (some ⟨g, off, none⟩) 2 k3] 26)) #[.int .i64 (2 * j0 - j1), .int .i64 (j1.tdiv 3)] 2 2 2 cub (Nat.le_refl _) (by decide) (fun j hj => HC.out j hj) (fun j hj => by
    rcases (show j = 0 ∨ j = 1 by omega) with rfl | rfl
    · rw [E0.out]; rfl
    · rw [E1.out]; rfl)
  simp only [World.size_alloc] at q0
  have HQ := Lib.hid q0.drew
  clear q0
  go_wp2
  go_region
  all_goals
    go_wp2
    go_ret2
    exact ⟨_, _, rfl, HQ.out.wide (by omega) (by simp) (by simp), by go_grown⟩
end
theorem CubicPair_impl_bad (p : Int) (h : ¬ (PrP p ∧ OrP p 3)) (w : World) :
    Calls Try.prog 45 #[.int .i64 p] w fun e w' => ∃ a k, e = .returned (.tuple #[.slice a 0 k, .int .i64 2]) ∧ Sl true w' w.heap.size w'.heap.size (.slice a 0 k) 0 (fun _ => 0) ∧ Below w.heap.size w w' := by
  have HP := Lib.hid (partsOfDouble_bad p 3 h); clear h
  refine nil_form ?_
  go_enter Try.func45, Try.ntmps45
  go_wp2_with fail
  refine (HP.out _).mono ?_
  rintro e w1 ⟨rfl, b1⟩
  go_wp2
  go_ret2
  exact ⟨rfl, b1⟩
theorem CubicPair_spec_bad (p : Int) (h : ¬ (PrP p ∧ OrP p 3)) (w : World) :
    Calls Try.prog 44 #[.int .i64 p] w fun e w' => ∃ a k, e = .returned (.tuple #[.slice a 0 k, .int .i64 2]) ∧ Sl true w' w.heap.size w'.heap.size (.slice a 0 k) 0 (fun _ => 0) ∧ Below w.heap.size w w' := by
  refine nil_form ?_
  by_cases hp : PrP p
  · have h4 : ¬ OrP p 3 := fun q => h ⟨hp, q⟩
    obtain ⟨P, rfl⟩ := Int.eq_ofNat_of_zero_le hp.1
    have hpp : primeN P = true := by have := hp.2; rwa [Int.toNat_natCast] at this
    have hb := primeN_bd hpp
    have HQ := Lib.hid (l03Prime_yes P hpp)
    have hm : ((P : Int) % 3 != 1) = true := by
      rw [bne_iff_ne]
      intro e
      exact h4 ⟨by omega, by omega, by omega⟩
    clear h hp h4 hpp
    go_enter Try.func44, Try.ntmps44
    go_wp2_with fail
    refine (HQ.out _).mono ?_
    rintro e w1 ⟨rfl, m1, rfl⟩
    go_wp2
    go_ret2
    exact ⟨rfl, below_drewN (Below.refl _ _) _⟩
  · have HQ := Lib.hid (l03Prime_no p hp)
    clear h hp
    go_enter Try.func44, Try.ntmps44
    go_wp2_with fail
    refine (HQ.out _).mono ?_
    rintro e w1 ⟨rfl, m1, rfl⟩
    go_wp2
    go_ret2
    exact ⟨rfl, below_drewN (Below.refl _ _) _⟩

end Go.Proofs.Ytloalhcloifgjaa
