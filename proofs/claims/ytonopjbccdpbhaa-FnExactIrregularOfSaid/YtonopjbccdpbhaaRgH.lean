/- Numbers modulo primes of the program: plus, times, over. -/
import Derived.Test.YtonopjbccdpbhaaRgB
import Derived.Test.YtonopjbccdpbhaaState
import Derived.Test.YtonopjbccdpbhaaPlcA
import Derived.Deep.RegionLaw
import Derived.Deep.RegionHeld3
namespace Go.Proofs.Ytonopjbccdpbhaa
open Go.RowKit Go.ChangeShapes Go.Sort
set_option linter.unusedVariables false
set_option linter.unusedSimpArgs false
set_option maxRecDepth 100000
set_option maxHeartbeats 2000000

theorem plusR_any (p v v' : Nat) (h2 : 2 ≤ p) (h61 : p ≤ 61) (hv : v < p) (hv' : v' < p) (w : World) :
    Calls Try.prog 242 #[.agg #[.int .i64 (v : Int), .int .i64 (p : Int)], .agg #[.int .i64 (v' : Int), .int .i64 (p : Int)]] w fun e w' => e = .returned (.agg #[.int .i64 (((v + v') % p : Nat) : Int), .int .i64 (p : Int)]) ∧ Below w.heap.size w w' := by
  have st := ((St.start w).alloc (.cells #[.int .i64 (v : Int), .int .i64 (p : Int)] 139)).addBox _ [.int .i64 (v : Int), .int .i64 (p : Int)] (Box.made _ _ _ _ (fun j v h => by simpa using h))
  replace st := (st.alloc (.cells #[.int .i64 (v' : Int), .int .i64 (p : Int)] 139)).addBox _ [.int .i64 (v' : Int), .int .i64 (p : Int)] (Box.made _ _ _ _ (fun j v h => by simpa using h))
  replace st := (st.alloc (.cells #[.int .i64 0, .int .i64 0] 139)).addBox _ [.int .i64 0, .int .i64 0] (Box.made _ _ _ _ (fun j v h => by simpa using h))
  simp only [World.size_alloc] at st
  have hq : ((v : Int) + (v' : Int)) % (p : Int) = (((v + v') % p : Nat) : Int) := by rw [Int.natCast_emod, Int.natCast_add]
  obtain ⟨q, hqe⟩ : ∃ q, (v + v') % p = q := ⟨_, rfl⟩
  rw [hqe] at hq ⊢
  clear hqe
  obtain ⟨x0, x1⟩ := (st.box 2 (w.heap.size, [.int .i64 (v : Int), .int .i64 (p : Int)]) rfl).cell2
  obtain ⟨y0, y1⟩ := (st.box 1 (w.heap.size + 1, [.int .i64 (v' : Int), .int .i64 (p : Int)]) rfl).cell2
  obtain ⟨z0, z1⟩ := (st.box 0 (w.heap.size + 1 + 1, [.int .i64 0, .int .i64 0]) rfl).cell2
  have zz := (st.box 0 (w.heap.size + 1 + 1, [.int .i64 0, .int .i64 0]) rfl).2.2
  have BB := st.1
  dsimp only at x0 x1 y0 y1 z0 z1 zz
  have hs0 : (0 : Int) ≤ (v : Int) + v' := by omega
  have hqt : ((v : Int) + (v' : Int)).tmod (p : Int) = (q : Int) := by rw [Int.tmod_eq_emod_of_nonneg hs0, hq]
  have hs1 : (v : Int) + v' ≤ 200 := by omega
  have hsw : IntKind.i64.wrap ((v : Int) + v') = (v : Int) + v' := by rw [IntKind.wrap_i64]; omega
  have hp0 : ¬ (p : Int) = 0 := by omega
  have hp0n : ¬ p = 0 := by omega
  go_enter Try.func242, Try.ntmps242
  go_wp2
  go_region
  go_wp2
  refine bodyPost_ret (v := .agg #[.int .i64 (q : Int), .int .i64 (p : Int)]) (by simp [results, Try.results242, go_sem, z0, z1]) rfl ⟨rfl, ?_⟩
  go_grown
theorem timesR_any (p v r : Nat) (x : Int) (h2 : 2 ≤ p) (h61 : p ≤ 61) (hv : v < p) (hx : -2000000000000000000 ≤ x) (hx' : x ≤ 2000000000000000000) (hr : x % (p : Int) = (r : Int)) (w : World) :
    Calls Try.prog 243 #[.agg #[.int .i64 (v : Int), .int .i64 (p : Int)], .int .i64 x] w fun e w' => e = .returned (.agg #[.int .i64 ((v * r % p : Nat) : Int), .int .i64 (p : Int)]) ∧ Below w.heap.size w w' := by
  have hr61 : r < p := by have := Int.emod_lt_of_pos x (show (0 : Int) < p by omega); omega
  have HRB := Lib.hid (fun w' => restBy_any x p (by omega) (by omega) hx hx' w')
  rw [hr] at HRB
  have hm2 : ((v * r : Nat) : Int) = (v : Int) * r := Int.natCast_mul _ _
  have hm1 : v * r ≤ 3721 := Nat.le_trans (Nat.mul_le_mul (show v ≤ 61 by omega) (show r ≤ 61 by omega)) (by omega)
  have hq : (v : Int) * (r : Int) % (p : Int) = ((v * r % p : Nat) : Int) := by rw [Int.natCast_emod, hm2]
  have hs0 : (0 : Int) ≤ (v : Int) * r := by omega
  have hs1 : (v : Int) * r ≤ 3721 := by omega
  clear hm1 hm2 hr
  obtain ⟨q, hqe⟩ : ∃ q, v * r % p = q := ⟨_, rfl⟩
  rw [hqe] at hq ⊢
  clear hqe
  have hqt : ((v : Int) * (r : Int)).tmod (p : Int) = (q : Int) := by rw [Int.tmod_eq_emod_of_nonneg hs0, hq]
  have hsw : IntKind.i64.wrap ((v : Int) * r) = (v : Int) * r := by rw [IntKind.wrap_i64]; omega
  have hp0 : ¬ (p : Int) = 0 := by omega
  have hp0n : ¬ p = 0 := by omega
  have st := ((St.start w).alloc (.cells #[.int .i64 (v : Int), .int .i64 (p : Int)] 139)).addBox _ [.int .i64 (v : Int), .int .i64 (p : Int)] (Box.made _ _ _ _ (fun j v h => by simpa using h))
  replace st := (st.alloc (.cells #[.int .i64 0, .int .i64 0] 139)).addBox _ [.int .i64 0, .int .i64 0] (Box.made _ _ _ _ (fun j v h => by simpa using h))
  simp only [World.size_alloc] at st
  obtain ⟨x0, x1⟩ := (st.box 1 (w.heap.size, [.int .i64 (v : Int), .int .i64 (p : Int)]) rfl).cell2
  obtain ⟨z0, z1⟩ := (st.box 0 (w.heap.size + 1, [.int .i64 0, .int .i64 0]) rfl).cell2
  have zz := (st.box 0 (w.heap.size + 1, [.int .i64 0, .int .i64 0]) rfl).2.2
  have BB := st.1
  dsimp only at x0 x1 z0 z1 zz
  go_enter Try.func243, Try.ntmps243
  go_wp2_with fail
  go_region_law (first
    | (go_simp; go_at_call 214; refine (HRB.out _).mono ?_; rintro e w6 ⟨rfl, rfl⟩))
  all_goals
    go_wp2
    refine bodyPost_ret (v := .agg #[.int .i64 (q : Int), .int .i64 (p : Int)]) (by simp [results, Try.results243, go_sem, z0, z1]) rfl ⟨rfl, ?_⟩
    go_grown
theorem overR_any (p v x : Nat) (h2 : 2 ≤ p) (h61 : p ≤ 61) (hv : v < p) (hx : x < p) (w : World) :
    Calls Try.prog 241 #[.agg #[.int .i64 (v : Int), .int .i64 (p : Int)], .int .i64 (x : Int)] w fun e w' => e = .returned (.agg #[.int .i64 ((v * pwr p x (p - 2) % p : Nat) : Int), .int .i64 (p : Int)]) ∧ Below w.heap.size w w' := by
  have hrp : ∀ k, pwr p x k < p := fun k => by
    cases k with
    | zero => show 1 < p; omega
    | succ k => exact Nat.mod_lt _ (by omega)
  have HRB := Lib.hid (fun w' => restBy_any (x : Int) p (by omega) (by omega) (by omega) (by omega) w')
  have hxp : (x : Int) % (p : Int) = (x : Int) := Int.emod_eq_of_lt (by omega) (by omega)
  rw [hxp] at HRB
  have HPM := Lib.hid (show ∀ w' : World, Calls Try.prog 244 #[.int .i64 (x : Int), .int .i64 ((p - 2 : Nat) : Int), .int .i64 (p : Int)] w' fun e w'' => e = .returned (.int .i64 (pwr p x (p - 2) : Nat)) ∧ Below w'.heap.size w' w'' from fun w' => (powerModulo_any p x (p - 2) h2 h61 hx (by omega) w').mono fun _ _ ⟨he, m, hw⟩ => ⟨he, hw ▸ below_drewN (Below.refl _ _) m⟩)
  have hpp := hrp (p - 2)
  obtain ⟨u, hu⟩ : ∃ u, pwr p x (p - 2) = u := ⟨_, rfl⟩
  rw [hu] at HPM hpp ⊢
  have HT := Lib.hid (fun w' => timesR_any p v u (u : Int) h2 h61 hv (by omega) (by omega) (Int.emod_eq_of_lt (by omega) (by omega)) w')
  clear hu hxp hrp
  have hsub : ((p - 2 : Nat) : Int) = (p : Int) - 2 := by omega
  rw [hsub] at HPM
  have hsw : IntKind.i64.wrap ((p : Int) - 2) = (p : Int) - 2 := by rw [IntKind.wrap_i64]; omega
  have st := ((St.start w).alloc (.cells #[.int .i64 (v : Int), .int .i64 (p : Int)] 139)).addBox _ [.int .i64 (v : Int), .int .i64 (p : Int)] (Box.made _ _ _ _ (fun j v h => by simpa using h))
  replace st := (st.alloc (.cells #[.int .i64 0, .int .i64 0] 139)).addBox _ [.int .i64 0, .int .i64 0] (Box.made _ _ _ _ (fun j v h => by simpa using h))
  simp only [World.size_alloc] at st
  obtain ⟨x0, x1⟩ := (st.box 1 (w.heap.size, [.int .i64 (v : Int), .int .i64 (p : Int)]) rfl).cell2
  obtain ⟨z0, z1⟩ := (st.box 0 (w.heap.size + 1, [.int .i64 0, .int .i64 0]) rfl).cell2
  have zz := (st.box 0 (w.heap.size + 1, [.int .i64 0, .int .i64 0]) rfl).2.2
  dsimp only at x0 x1 z0 z1 zz
  go_enter Try.func241, Try.ntmps241
  go_wp2_with fail
  go_region_held3 (fun w' => w'.cell? ⟨w.heap.size, 0, none⟩ = some (.int .i64 (v : Int)) ∧ w'.cell? ⟨w.heap.size, 1, none⟩ = some (.int .i64 (p : Int)))
    (first | exact ⟨x0, x1⟩ | exact ⟨cell_later (Below.refl _ _).drew x0, cell_later (Below.refl _ _).drew x1⟩ | go_keep)
    (first
    | (go_at_call 214; refine (HRB.out _).mono ?_; rintro e w6 ⟨rfl, rfl⟩)
    | (go_at_call 244; refine (HPM.out _).mono ?_; rintro e w7 ⟨rfl, b7⟩; (first | replace st := st.keep b7 | replace st := st.drew.keep b7); clear b7 x0 x1 z0 z1 zz; obtain ⟨x0, x1⟩ := (st.box 1 (w.heap.size, [.int .i64 (v : Int), .int .i64 (p : Int)]) rfl).cell2; obtain ⟨z0, z1⟩ := (st.box 0 (w.heap.size + 1, [.int .i64 0, .int .i64 0]) rfl).cell2; have zz := (st.box 0 (w.heap.size + 1, [.int .i64 0, .int .i64 0]) rfl).2.2; (try dsimp only at x0 x1 z0 z1 zz))
    | (go_at_call 243; refine (HT.out _).mono ?_; rintro e w8 ⟨rfl, b8⟩; (first | replace st := st.keep b8 | replace st := st.drew.keep b8); clear b8 x0 x1 z0 z1 zz; obtain ⟨x0, x1⟩ := (st.box 1 (w.heap.size, [.int .i64 (v : Int), .int .i64 (p : Int)]) rfl).cell2; obtain ⟨z0, z1⟩ := (st.box 0 (w.heap.size + 1, [.int .i64 0, .int .i64 0]) rfl).cell2; have zz := (st.box 0 (w.heap.size + 1, [.int .i64 0, .int .i64 0]) rfl).2.2; (try dsimp only at x0 x1 z0 z1 zz)))
  all_goals
    have BB := st.1
    go_wp2
    refine bodyPost_ret (v := .agg #[.int .i64 ((v * u % p : Nat) : Int), .int .i64 (p : Int)]) (by simp [results, Try.results241, go_sem, z0, z1]) rfl ⟨rfl, ?_⟩
    go_grown
end Go.Proofs.Ytonopjbccdpbhaa
