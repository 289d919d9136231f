/- What lies behind the door to equations, and the functions, of the program: genus, counts, curves, powers. -/
import Derived.Test.YtacffobbbcfbcaaDoorEqC
import Derived.Test.YtacffobbbcfbcaaDoorEqB
namespace Go.Proofs.YtacffobbbcfbcaaDoor
open Go.RowKit Go.ChangeShapes Go.Sort
set_option linter.unusedVariables false
set_option linter.unusedSimpArgs false
set_option maxRecDepth 100000

theorem Box.new (w : World) (v : Value) (t : TypeId) (b : Nat) (hb : w.heap.size = b) : Box (w.alloc (.cells #[v] t)) b [v] := by
  subst hb
  exact Box.made _ _ _ _ (fun j v h => by simpa using h)
theorem two_made (w : World) (x y : Int) (hx : inR x) (hy : inR y) (t : TypeId) (ht : t = 2) :
    Sl true ((w.alloc (.cells #[.int .i64 x] t)).alloc (.cells #[.int .i64 y] t)).drew w.heap.size (w.heap.size + 1) (.slice (some ⟨w.heap.size, 0, none⟩) 1 1) 1 (fun _ => x) ∧
    Sl true ((w.alloc (.cells #[.int .i64 x] t)).alloc (.cells #[.int .i64 y] t)).drew (w.heap.size + 1) (w.heap.size + 1 + 1) (.slice (some ⟨w.heap.size + 1, 0, none⟩) 1 1) 1 (fun _ => y) ∧
    Below w.heap.size w ((w.alloc (.cells #[.int .i64 x] t)).alloc (.cells #[.int .i64 y] t)).drew := by
  have sB := one_made (w.alloc (.cells #[.int .i64 x] t)) y hy t ht
  simp only [World.size_alloc] at sB
  exact ⟨((one_made w x hx t ht).alloc _).drew, sB.drew, (((Below.refl w.heap.size w).alloc (Nat.le_refl _) _).alloc (by simp) _).drew⟩
theorem Box.c0 {w : World} {b : Nat} {v : Value} (h : Box w b [v]) : w.cell? ⟨b, 0, none⟩ = some v := h.2.1 0 _ rfl
/-! GenusOfCurve -/
def genI (m : Int) : Int := (m - 1) * (m - 2) / 2
theorem GenusOfCurve_cl_ok (b0 : Nat) (m : Nat) (h1 : 1 ≤ m) (h2 : m ≤ 60) (w : World) (x0 : Box w b0 [.int .i64 (m : Int)]) :
    Calls Tryd.prog 83 #[.pointer (some ⟨b0, 0, none⟩)] w fun e w' => e = .returned (.int .i64 (genI m)) ∧ Below w.heap.size w w' := by
  have c0 := x0.c0
  have hp1 : ((m : Int) - 1) * ((m : Int) - 2) ≤ 59 * 59 := by
    rcases Nat.lt_or_ge m 2 with h | h
    · obtain rfl : m = 1 := by omega
      decide
    · exact Int.mul_le_mul (by omega) (by omega) (by omega) (by omega)
  have hp0 : 0 ≤ ((m : Int) - 1) * ((m : Int) - 2) := by
    rcases Nat.lt_or_ge m 2 with h | h
    · obtain rfl : m = 1 := by omega
      decide
    · exact Int.mul_nonneg (by omega) (by omega)
  have HG := Lib.hid (show ((m : Int) - 1) * ((m : Int) - 2) / 2 = genI m from rfl)
  go_enter Tryd.func83, Tryd.ntmps83
  go_wp2_with (first
    | (go_at_call 84; refine (isExponent_yes _ _ (by omega) (by omega)).mono ?_; rintro e w1 ⟨rfl, rfl⟩)
    | (go_at_call 80; refine (demand_ok _).mono ?_; rintro e w2 ⟨rfl, rfl⟩))
  go_ret
  exact ⟨by rw [HG.out]; rfl, Below.refl _ _⟩
theorem GenusOfCurve_cl_no (b0 : Nat) (m : Int) (h : ¬ (1 ≤ m ∧ m ≤ 60)) (w : World) (ad : Addr) (hG : Gat w ad) (x0 : Box w b0 [.int .i64 m]) :
    Calls Tryd.prog 83 #[.pointer (some ⟨b0, 0, none⟩)] w fun e w' => e = .panicked [{ v := .iface 113 (.pointer (some ad)), recovered := false }] ∧ Below w.heap.size w w' := by
  have c0 := x0.c0
  have H := Lib.hid h
  have HG := Lib.hid hG
  clear h hG
  go_enter Tryd.func83, Tryd.ntmps83
  go_wp2_with (first
    | (go_at_call 84; refine (isExponent_no _ _ H.out).mono ?_; rintro e w1 ⟨rfl, rfl⟩)
    | (go_at_call 80; refine (demand_no _ ad HG.out).mono ?_; rintro e w2 ⟨rfl, rfl⟩))
  first | exact ⟨rfl, Below.refl _ _⟩ | exact ⟨rfl, rfl, Below.refl _ _⟩

set_option maxHeartbeats 2000000 in
theorem GenusOfCurve_impl_ok (m : Nat) (h1 : 1 ≤ m) (h2 : m ≤ 60) (w : World) :
    Calls Tryd.prog 39 #[.int .i64 (m : Int)] w fun e w' => e = .returned (.tuple #[.int .i64 (genI m), .int .i64 0]) ∧ Below w.heap.size w w' := by
  have ST := (((St.start w).alloc (.cells #[.int .i64 (m : Int)] 2)).addBox w.heap.size [.int .i64 (m : Int)] (Box.made _ _ _ _ (fun j v h => by simpa using h)))
  have hz : w.heap.size ≤ (w.alloc (.cells #[.int .i64 (m : Int)] 2)).heap.size := ST.1.size
  have bx0 := (ST.alloc (.cells #[.int .i64 0] 2)).box 0 (w.heap.size, [.int .i64 (m : Int)]) rfl
  have hmf : ∀ (fn : Fn) (first cap : Array Value) (w : World), (Instr.makeFunc fn first cap).run Tryd.prog w = .ok (.func fn first cap) w := fun _ _ _ _ => rfl
  obtain ⟨W, hW⟩ : ∃ W, (w.alloc (.cells #[.int .i64 (m : Int)] 2)) = W := ⟨_, rfl⟩
  have hst := ST.1
  rw [hW] at hz hst bx0
  have HC := Lib.hid ((doorI_GenusOfCurve_ok (w.heap.size) W ((genI m)) ((GenusOfCurve_cl_ok (w.heap.size) m h1 h2 _ bx0).mono (fun e w' ⟨he, hb⟩ => ⟨he, hb.mono (by simp)⟩))))
  clear ST bx0
  go_enter Tryd.func39, Tryd.ntmps39
  go_wp2_with fail
  try simp only [World.size_alloc]
  try rw [hW]
  go_wp2_with (go_at_call 57; refine HC.out.mono ?_; rintro e w1 ⟨rfl, b1⟩)
  have BB := hst.trans (b1.mono hz)
  go_ret2
  exact ⟨rfl, BB⟩

set_option maxHeartbeats 2000000 in
theorem GenusOfCurve_impl_no (m : Int) (h : ¬ (1 ≤ m ∧ m ≤ 60)) (w : World) (ad : Addr) (hG : Gat w ad) :
    Calls Tryd.prog 39 #[.int .i64 (m : Int)] w fun e w' => e = .returned (.tuple #[.int .i64 0, .int .i64 2]) ∧ Below w.heap.size w w' := by
  have ST := (((St.start w).alloc (.cells #[.int .i64 (m : Int)] 2)).addBox w.heap.size [.int .i64 (m : Int)] (Box.made _ _ _ _ (fun j v h => by simpa using h)))
  have hz : w.heap.size ≤ (w.alloc (.cells #[.int .i64 (m : Int)] 2)).heap.size := ST.1.size
  have bx0 := (ST.alloc (.cells #[.int .i64 0] 2)).box 0 (w.heap.size, [.int .i64 (m : Int)]) rfl
  have HG := (hG.keep ST.1).alloc (.cells #[.int .i64 0] 2)
  have hmf : ∀ (fn : Fn) (first cap : Array Value) (w : World), (Instr.makeFunc fn first cap).run Tryd.prog w = .ok (.func fn first cap) w := fun _ _ _ _ => rfl
  obtain ⟨W, hW⟩ : ∃ W, (w.alloc (.cells #[.int .i64 (m : Int)] 2)) = W := ⟨_, rfl⟩
  have hst := ST.1
  rw [hW] at hz hst bx0 HG
  have HC := Lib.hid ((doorI_GenusOfCurve_no (w.heap.size) W ad ((GenusOfCurve_cl_no (w.heap.size) m h _ ad HG bx0).mono (fun e w' ⟨he, hb⟩ => ⟨he, hb.mono (by simp)⟩))))
  clear ST bx0 HG hG
  go_enter Tryd.func39, Tryd.ntmps39
  go_wp2_with fail
  try simp only [World.size_alloc]
  try rw [hW]
  go_wp2_with (go_at_call 57; refine HC.out.mono ?_; rintro e w1 ⟨rfl, b1⟩)
  have BB := hst.trans (b1.mono hz)
  go_ret2
  exact ⟨rfl, BB⟩


/-! CountSolutions, CountFull -/
section
variable {o o' : Bool} {lo hi lo' hi' : Nat} {v v' : Value} {n m : Nat} {fa fe : Nat → Int}
set_option maxHeartbeats 2000000 in
theorem CountSolutions_cl_ok (b0 b1 b2 b3 p B : Nat) (hp : primeN p = true) (hB : B < p) (h1 : 1 ≤ n) (h2 : n ≤ 4) (h : ∀ i, i < n → 1 ≤ fa i ∧ fa i < (p : Int) ∧ 1 ≤ fe i ∧ fe i ≤ 60) (w : World)
    (x0 : Box w b0 [.int .i64 (p : Int)]) (x1 : Box w b1 [v]) (x2 : Box w b2 [v']) (x3 : Box w b3 [.int .i64 (B : Int)]) (hs : Sl o w lo hi v n fa) (ht : Sl o' w lo' hi' v' n fe) :
    Calls Tryd.prog 58 #[.pointer (some ⟨b0, 0, none⟩), .pointer (some ⟨b1, 0, none⟩), .pointer (some ⟨b2, 0, none⟩), .pointer (some ⟨b3, 0, none⟩)] w fun e w' => e = .returned (.int .i64 (solT p fa fe 0 n B)) ∧ Below w.heap.size w w' := by
  have hbd := primeN_bd hp
  have HP := Lib.hid hp
  have H := Lib.hid h
  obtain ⟨a1, k1, rfl⟩ := hs.shape
  obtain ⟨a2, k2, rfl⟩ := ht.shape
  have HS := Lib.hid hs
  have HT := Lib.hid ht
  have HR := Lib.hid (show ResP (fun _ => (B : Int)) 1 (p : Int) from fun i hi => ⟨Int.natCast_nonneg _, Int.ofNat_lt.2 hB⟩)
  have c0 := x0.c0
  have c1 := x1.c0
  have c2 := x2.c0
  clear hs ht hp h
  go_enter Tryd.func58, Tryd.ntmps58
  go_wp2_with (first
    | (go_at_call 59; refine (partsOf_ok p HP.out _ HS.out HT.out h1 h2 H.out).mono ?_; rintro e w1 ⟨rfl, P1, bl1⟩; have y0 := x0.keep bl1; have y3 := x3.keep bl1; have c0 := y0.c0; have c3 := y3.c0; have hz1 := bl1.size; have hpl := P1.1; have sB := one_made w1 (B : Int) (by unfold inR; omega) _ rfl; have bA := (Below.refl w1.heap.size w1).alloc (Nat.le_refl _) (.cells #[.int .i64 (B : Int)] 2))
    | (go_at_call 60; refine (demandResidues_ok _ _ (by omega) (by omega) sB HR.out).mono ?_; rintro e w2 ⟨rfl, rfl⟩; have z0 := (y0.keep bA).c0; have z3 := (y3.keep bA).c0))
  have z0' := (y0.keep bA).keep (Below.refl _ _).drew
  have z3' := (y3.keep bA).keep (Below.refl _ _).drew
  have P2 := (P1.keep bA).keep (Below.refl _ _).drew
  have HZ0 := Lib.hid z0'
  have HZ3 := Lib.hid z3'
  have HP2 := Lib.hid P2
  clear z0' z3' P2
  go_region_law (first
    | (go_simp; go_at_call 61; refine (solutionCounts0 p _ (by omega) hbd.2 _ HP2.out h2 H.out).mono ?_; rintro e w3 ⟨G, rfl, q3, bl3⟩; have u0 := (HZ0.out.keep bl3).c0; have u3 := (HZ3.out.keep bl3).c0; have hG := (q3.known (by omega)).2.2.2.1 B hB; rw [Nat.zero_add] at hG))
  all_goals
    go_wp2
    go_ret
    exact ⟨rfl, ((bl1.trans (bA.mono hz1)).drew).trans (bl3.mono (show w.heap.size ≤ _ by simp only [World.size_drew, World.size_alloc]; omega))⟩
set_option maxHeartbeats 2000000 in
theorem CountSolutions_cl_no (b0 b1 b2 b3 : Nat) (p B : Int) (hB : inR B) (h : ¬ (EqP p n fa m fe ∧ 0 ≤ B ∧ B < p)) (w : World) (ad : Addr) (hG : Gat w ad)
    (x0 : Box w b0 [.int .i64 p]) (x1 : Box w b1 [v]) (x2 : Box w b2 [v']) (x3 : Box w b3 [.int .i64 B]) (hs : Sl o w lo hi v n fa) (ht : Sl o' w lo' hi' v' m fe) :
    Calls Tryd.prog 58 #[.pointer (some ⟨b0, 0, none⟩), .pointer (some ⟨b1, 0, none⟩), .pointer (some ⟨b2, 0, none⟩), .pointer (some ⟨b3, 0, none⟩)] w fun e w' => e = .panicked [{ v := .iface 113 (.pointer (some ad)), recovered := false }] ∧ Below w.heap.size w w' := by
  obtain ⟨a1, k1, rfl⟩ := hs.shape
  obtain ⟨a2, k2, rfl⟩ := ht.shape
  have HS := Lib.hid hs
  have HT := Lib.hid ht
  have HG := Lib.hid hG
  have c0 := x0.c0
  have c1 := x1.c0
  have c2 := x2.c0
  clear hs ht hG
  by_cases hE : EqP p n fa m fe
  · have hR := Lib.hid (show ¬ ResP (fun _ => B) 1 p from fun g => h ⟨hE, (g 0 (by omega)).1, (g 0 (by omega)).2⟩)
    obtain ⟨hp, h1, h2, rfl, hall⟩ := hE
    obtain ⟨P, rfl⟩ := Int.eq_ofNat_of_zero_le hp.1
    have HP := Lib.hid (show primeN P = true by have := hp.2; rwa [Int.toNat_natCast] at this)
    have hbd := primeN_bd HP.out
    have H := Lib.hid hall
    clear h hp hall
    go_enter Tryd.func58, Tryd.ntmps58
    go_wp2_with (first
      | (go_at_call 59; refine (partsOf_ok P HP.out _ HS.out HT.out h1 h2 H.out).mono ?_; rintro e w1 ⟨rfl, P1, bl1⟩; have y0 := x0.keep bl1; have y3 := x3.keep bl1; have c0 := y0.c0; have c3 := y3.c0; have hz1 := bl1.size; have HG1 := HG.out.keep bl1; have sB := one_made w1 B hB _ rfl; have bA := (Below.refl w1.heap.size w1).alloc (Nat.le_refl _) (.cells #[.int .i64 B] 2))
      | (go_at_call 60; refine (demandResidues_no _ _ ad (HG1.keep bA) (by omega) (by omega) sB hR.out).mono ?_; rintro e w2 ⟨rfl, rfl⟩))
    have BB := bl1.trans (bA.mono hz1)
    first | exact ⟨rfl, BB⟩ | exact ⟨rfl, rfl, BB⟩
  · have H := Lib.hid hE
    clear h hE
    go_enter Tryd.func58, Tryd.ntmps58
    go_wp2_with (go_at_call 59; refine (partsOf_no p _ ad HG.out HS.out HT.out H.out).mono ?_; rintro e w1 ⟨rfl, bl1⟩)
    first | exact ⟨rfl, bl1⟩ | exact ⟨rfl, rfl, bl1⟩

set_option maxHeartbeats 2000000 in
theorem CountSolutions_impl_ok (p B : Nat) (hp : primeN p = true) (hB : B < p) (h1 : 1 ≤ n) (h2 : n ≤ 4) (h : ∀ i, i < n → 1 ≤ fa i ∧ fa i < (p : Int) ∧ 1 ≤ fe i ∧ fe i ≤ 60) (w : World) (h_v : Sl o w lo hi v n fa) (h_v' : Sl o' w lo' hi' v' n fe) :
    Calls Tryd.prog 18 #[.int .i64 (p : Int), v, v', .int .i64 (B : Int)] w fun e w' => e = .returned (.tuple #[.int .i64 (solT p fa fe 0 n B), .int .i64 0]) ∧ Below w.heap.size w w' := by
  obtain ⟨a_v, c_v, rfl⟩ := h_v.shape
  obtain ⟨a_v', c_v', rfl⟩ := h_v'.shape
  have ST := (((((((((St.start w).alloc (.cells #[.int .i64 (p : Int)] 2)).addBox w.heap.size [.int .i64 (p : Int)] (Box.made _ _ _ _ (fun j v h => by simpa using h))).alloc (.cells #[.slice a_v n c_v] 24)).addBox (w.heap.size + 1) [.slice a_v n c_v] (Box.new _ _ _ _ (by simp))).alloc (.cells #[.slice a_v' n c_v'] 24)).addBox (w.heap.size + 1 + 1) [.slice a_v' n c_v'] (Box.new _ _ _ _ (by simp))).alloc (.cells #[.int .i64 (B : Int)] 2)).addBox (w.heap.size + 1 + 1 + 1) [.int .i64 (B : Int)] (Box.new _ _ _ _ (by simp)))
  have hz : w.heap.size ≤ ((((w.alloc (.cells #[.int .i64 (p : Int)] 2)).alloc (.cells #[.slice a_v n c_v] 24)).alloc (.cells #[.slice a_v' n c_v'] 24)).alloc (.cells #[.int .i64 (B : Int)] 2)).heap.size := ST.1.size
  have bx0 := (ST.alloc (.cells #[.int .i64 0] 2)).box 3 (w.heap.size, [.int .i64 (p : Int)]) rfl
  have bx1 := (ST.alloc (.cells #[.int .i64 0] 2)).box 2 (w.heap.size + 1, [.slice a_v n c_v]) rfl
  have bx2 := (ST.alloc (.cells #[.int .i64 0] 2)).box 1 (w.heap.size + 1 + 1, [.slice a_v' n c_v']) rfl
  have bx3 := (ST.alloc (.cells #[.int .i64 0] 2)).box 0 (w.heap.size + 1 + 1 + 1, [.int .i64 (B : Int)]) rfl
  have sl_v := (h_v.keep ST.1 h_v.size).alloc (.cells #[.int .i64 0] 2)
  have sl_v' := (h_v'.keep ST.1 h_v'.size).alloc (.cells #[.int .i64 0] 2)
  have hmf : ∀ (fn : Fn) (first cap : Array Value) (w : World), (Instr.makeFunc fn first cap).run Tryd.prog w = .ok (.func fn first cap) w := fun _ _ _ _ => rfl
  obtain ⟨W, hW⟩ : ∃ W, ((((w.alloc (.cells #[.int .i64 (p : Int)] 2)).alloc (.cells #[.slice a_v n c_v] 24)).alloc (.cells #[.slice a_v' n c_v'] 24)).alloc (.cells #[.int .i64 (B : Int)] 2)) = W := ⟨_, rfl⟩
  have hst := ST.1
  rw [hW] at hz hst bx0 bx1 bx2 bx3 sl_v sl_v'
  have HC := Lib.hid ((doorI_CountSolutions_ok (w.heap.size) (w.heap.size + 1) (w.heap.size + 1 + 1) (w.heap.size + 1 + 1 + 1) W ((solT p fa fe 0 n B)) ((CountSolutions_cl_ok (w.heap.size) (w.heap.size + 1) (w.heap.size + 1 + 1) (w.heap.size + 1 + 1 + 1) p B hp hB h1 h2 h _ bx0 bx1 bx2 bx3 sl_v sl_v').mono (fun e w' ⟨he, hb⟩ => ⟨he, hb.mono (by simp)⟩))))
  clear ST bx0 bx1 bx2 bx3 sl_v h_v sl_v' h_v'
  go_enter Tryd.func18, Tryd.ntmps18
  go_wp2_with fail
  try simp only [World.size_alloc]
  try rw [hW]
  go_wp2_with (go_at_call 57; refine HC.out.mono ?_; rintro e w1 ⟨rfl, b1⟩)
  have BB := hst.trans (b1.mono hz)
  go_ret2
  exact ⟨rfl, BB⟩

set_option maxHeartbeats 2000000 in
theorem CountSolutions_impl_no (p B : Int) (hB : inR B) (h : ¬ (EqP p n fa m fe ∧ 0 ≤ B ∧ B < p)) (w : World) (ad : Addr) (hG : Gat w ad) (h_v : Sl o w lo hi v n fa) (h_v' : Sl o' w lo' hi' v' m fe) :
    Calls Tryd.prog 18 #[.int .i64 (p : Int), v, v', .int .i64 (B : Int)] w fun e w' => e = .returned (.tuple #[.int .i64 0, .int .i64 2]) ∧ Below w.heap.size w w' := by
  obtain ⟨a_v, c_v, rfl⟩ := h_v.shape
  obtain ⟨a_v', c_v', rfl⟩ := h_v'.shape
  have ST := (((((((((St.start w).alloc (.cells #[.int .i64 (p : Int)] 2)).addBox w.heap.size [.int .i64 (p : Int)] (Box.made _ _ _ _ (fun j v h => by simpa using h))).alloc (.cells #[.slice a_v n c_v] 24)).addBox (w.heap.size + 1) [.slice a_v n c_v] (Box.new _ _ _ _ (by simp))).alloc (.cells #[.slice a_v' m c_v'] 24)).addBox (w.heap.size + 1 + 1) [.slice a_v' m c_v'] (Box.new _ _ _ _ (by simp))).alloc (.cells #[.int .i64 (B : Int)] 2)).addBox (w.heap.size + 1 + 1 + 1) [.int .i64 (B : Int)] (Box.new _ _ _ _ (by simp)))
  have hz : w.heap.size ≤ ((((w.alloc (.cells #[.int .i64 (p : Int)] 2)).alloc (.cells #[.slice a_v n c_v] 24)).alloc (.cells #[.slice a_v' m c_v'] 24)).alloc (.cells #[.int .i64 (B : Int)] 2)).heap.size := ST.1.size
  have bx0 := (ST.alloc (.cells #[.int .i64 0] 2)).box 3 (w.heap.size, [.int .i64 (p : Int)]) rfl
  have bx1 := (ST.alloc (.cells #[.int .i64 0] 2)).box 2 (w.heap.size + 1, [.slice a_v n c_v]) rfl
  have bx2 := (ST.alloc (.cells #[.int .i64 0] 2)).box 1 (w.heap.size + 1 + 1, [.slice a_v' m c_v']) rfl
  have bx3 := (ST.alloc (.cells #[.int .i64 0] 2)).box 0 (w.heap.size + 1 + 1 + 1, [.int .i64 (B : Int)]) rfl
  have sl_v := (h_v.keep ST.1 h_v.size).alloc (.cells #[.int .i64 0] 2)
  have sl_v' := (h_v'.keep ST.1 h_v'.size).alloc (.cells #[.int .i64 0] 2)
  have HG := (hG.keep ST.1).alloc (.cells #[.int .i64 0] 2)
  have hmf : ∀ (fn : Fn) (first cap : Array Value) (w : World), (Instr.makeFunc fn first cap).run Tryd.prog w = .ok (.func fn first cap) w := fun _ _ _ _ => rfl
  obtain ⟨W, hW⟩ : ∃ W, ((((w.alloc (.cells #[.int .i64 (p : Int)] 2)).alloc (.cells #[.slice a_v n c_v] 24)).alloc (.cells #[.slice a_v' m c_v'] 24)).alloc (.cells #[.int .i64 (B : Int)] 2)) = W := ⟨_, rfl⟩
  have hst := ST.1
  rw [hW] at hz hst bx0 bx1 bx2 bx3 sl_v sl_v' HG
  have HC := Lib.hid ((doorI_CountSolutions_no (w.heap.size) (w.heap.size + 1) (w.heap.size + 1 + 1) (w.heap.size + 1 + 1 + 1) W ad ((CountSolutions_cl_no (w.heap.size) (w.heap.size + 1) (w.heap.size + 1 + 1) (w.heap.size + 1 + 1 + 1) p B hB h _ ad HG bx0 bx1 bx2 bx3 sl_v sl_v').mono (fun e w' ⟨he, hb⟩ => ⟨he, hb.mono (by simp)⟩))))
  clear ST bx0 bx1 bx2 bx3 sl_v h_v sl_v' h_v' HG hG
  go_enter Tryd.func18, Tryd.ntmps18
  go_wp2_with fail
  try simp only [World.size_alloc]
  try rw [hW]
  go_wp2_with (go_at_call 57; refine HC.out.mono ?_; rintro e w1 ⟨rfl, b1⟩)
  have BB := hst.trans (b1.mono hz)
  go_ret2
  exact ⟨rfl, BB⟩
set_option maxHeartbeats 2000000 in
theorem CountFull_cl_ok (b0 b1 b2 b3 p B : Nat) (hp : primeN p = true) (hB : B < p) (h1 : 1 ≤ n) (h2 : n ≤ 4) (h : ∀ i, i < n → 1 ≤ fa i ∧ fa i < (p : Int) ∧ 1 ≤ fe i ∧ fe i ≤ 60) (w : World)
    (x0 : Box w b0 [.int .i64 (p : Int)]) (x1 : Box w b1 [v]) (x2 : Box w b2 [v']) (x3 : Box w b3 [.int .i64 (B : Int)]) (hs : Sl o w lo hi v n fa) (ht : Sl o' w lo' hi' v' n fe) :
    Calls Tryd.prog 64 #[.pointer (some ⟨b0, 0, none⟩), .pointer (some ⟨b1, 0, none⟩), .pointer (some ⟨b2, 0, none⟩), .pointer (some ⟨b3, 0, none⟩)] w fun e w' => e = .returned (.int .i64 (solT p fa fe 1 n B)) ∧ Below w.heap.size w w' := by
  have hbd := primeN_bd hp
  have HP := Lib.hid hp
  have H := Lib.hid h
  obtain ⟨a1, k1, rfl⟩ := hs.shape
  obtain ⟨a2, k2, rfl⟩ := ht.shape
  have HS := Lib.hid hs
  have HT := Lib.hid ht
  have HR := Lib.hid (show ResP (fun _ => (B : Int)) 1 (p : Int) from fun i hi => ⟨Int.natCast_nonneg _, Int.ofNat_lt.2 hB⟩)
  have c0 := x0.c0
  have c1 := x1.c0
  have c2 := x2.c0
  clear hs ht hp h
  go_enter Tryd.func64, Tryd.ntmps64
  go_wp2_with (first
    | (go_at_call 59; refine (partsOf_ok p HP.out _ HS.out HT.out h1 h2 H.out).mono ?_; rintro e w1 ⟨rfl, P1, bl1⟩; have y0 := x0.keep bl1; have y3 := x3.keep bl1; have c0 := y0.c0; have c3 := y3.c0; have hz1 := bl1.size; have hpl := P1.1; have sB := one_made w1 (B : Int) (by unfold inR; omega) _ rfl; have bA := (Below.refl w1.heap.size w1).alloc (Nat.le_refl _) (.cells #[.int .i64 (B : Int)] 2))
    | (go_at_call 60; refine (demandResidues_ok _ _ (by omega) (by omega) sB HR.out).mono ?_; rintro e w2 ⟨rfl, rfl⟩; have z0 := (y0.keep bA).c0; have z3 := (y3.keep bA).c0))
  have z0' := (y0.keep bA).keep (Below.refl _ _).drew
  have z3' := (y3.keep bA).keep (Below.refl _ _).drew
  have P2 := (P1.keep bA).keep (Below.refl _ _).drew
  have HZ0 := Lib.hid z0'
  have HZ3 := Lib.hid z3'
  have HP2 := Lib.hid P2
  clear z0' z3' P2
  go_region_law (first
    | (go_simp; go_at_call 61; refine (solutionCounts1 p _ (by omega) hbd.2 _ HP2.out h2 H.out).mono ?_; rintro e w3 ⟨G, rfl, q3, bl3⟩; have u0 := (HZ0.out.keep bl3).c0; have u3 := (HZ3.out.keep bl3).c0; have hG := (q3.known (by omega)).2.2.2.1 B hB; rw [Nat.zero_add] at hG))
  all_goals
    go_wp2
    go_ret
    exact ⟨rfl, ((bl1.trans (bA.mono hz1)).drew).trans (bl3.mono (show w.heap.size ≤ _ by simp only [World.size_drew, World.size_alloc]; omega))⟩
set_option maxHeartbeats 2000000 in
theorem CountFull_cl_no (b0 b1 b2 b3 : Nat) (p B : Int) (hB : inR B) (h : ¬ (EqP p n fa m fe ∧ 0 ≤ B ∧ B < p)) (w : World) (ad : Addr) (hG : Gat w ad)
    (x0 : Box w b0 [.int .i64 p]) (x1 : Box w b1 [v]) (x2 : Box w b2 [v']) (x3 : Box w b3 [.int .i64 B]) (hs : Sl o w lo hi v n fa) (ht : Sl o' w lo' hi' v' m fe) :
    Calls Tryd.prog 64 #[.pointer (some ⟨b0, 0, none⟩), .pointer (some ⟨b1, 0, none⟩), .pointer (some ⟨b2, 0, none⟩), .pointer (some ⟨b3, 0, none⟩)] w fun e w' => e = .panicked [{ v := .iface 113 (.pointer (some ad)), recovered := false }] ∧ Below w.heap.size w w' := by
  obtain ⟨a1, k1, rfl⟩ := hs.shape
  obtain ⟨a2, k2, rfl⟩ := ht.shape
  have HS := Lib.hid hs
  have HT := Lib.hid ht
  have HG := Lib.hid hG
  have c0 := x0.c0
  have c1 := x1.c0
  have c2 := x2.c0
  clear hs ht hG
  by_cases hE : EqP p n fa m fe
  · have hR := Lib.hid (show ¬ ResP (fun _ => B) 1 p from fun g => h ⟨hE, (g 0 (by omega)).1, (g 0 (by omega)).2⟩)
    obtain ⟨hp, h1, h2, rfl, hall⟩ := hE
    obtain ⟨P, rfl⟩ := Int.eq_ofNat_of_zero_le hp.1
    have HP := Lib.hid (show primeN P = true by have := hp.2; rwa [Int.toNat_natCast] at this)
    have hbd := primeN_bd HP.out
    have H := Lib.hid hall
    clear h hp hall
    go_enter Tryd.func64, Tryd.ntmps64
    go_wp2_with (first
      | (go_at_call 59; refine (partsOf_ok P HP.out _ HS.out HT.out h1 h2 H.out).mono ?_; rintro e w1 ⟨rfl, P1, bl1⟩; have y0 := x0.keep bl1; have y3 := x3.keep bl1; have c0 := y0.c0; have c3 := y3.c0; have hz1 := bl1.size; have HG1 := HG.out.keep bl1; have sB := one_made w1 B hB _ rfl; have bA := (Below.refl w1.heap.size w1).alloc (Nat.le_refl _) (.cells #[.int .i64 B] 2))
      | (go_at_call 60; refine (demandResidues_no _ _ ad (HG1.keep bA) (by omega) (by omega) sB hR.out).mono ?_; rintro e w2 ⟨rfl, rfl⟩))
    have BB := bl1.trans (bA.mono hz1)
    first | exact ⟨rfl, BB⟩ | exact ⟨rfl, rfl, BB⟩
  · have H := Lib.hid hE
    clear h hE
    go_enter Tryd.func64, Tryd.ntmps64
    go_wp2_with (go_at_call 59; refine (partsOf_no p _ ad HG.out HS.out HT.out H.out).mono ?_; rintro e w1 ⟨rfl, bl1⟩)
    first | exact ⟨rfl, bl1⟩ | exact ⟨rfl, rfl, bl1⟩

set_option maxHeartbeats 2000000 in
theorem CountFull_impl_ok (p B : Nat) (hp : primeN p = true) (hB : B < p) (h1 : 1 ≤ n) (h2 : n ≤ 4) (h : ∀ i, i < n → 1 ≤ fa i ∧ fa i < (p : Int) ∧ 1 ≤ fe i ∧ fe i ≤ 60) (w : World) (h_v : Sl o w lo hi v n fa) (h_v' : Sl o' w lo' hi' v' n fe) :
    Calls Tryd.prog 20 #[.int .i64 (p : Int), v, v', .int .i64 (B : Int)] w fun e w' => e = .returned (.tuple #[.int .i64 (solT p fa fe 1 n B), .int .i64 0]) ∧ Below w.heap.size w w' := by
  obtain ⟨a_v, c_v, rfl⟩ := h_v.shape
  obtain ⟨a_v', c_v', rfl⟩ := h_v'.shape
  have ST := (((((((((St.start w).alloc (.cells #[.int .i64 (p : Int)] 2)).addBox w.heap.size [.int .i64 (p : Int)] (Box.made _ _ _ _ (fun j v h => by simpa using h))).alloc (.cells #[.slice a_v n c_v] 24)).addBox (w.heap.size + 1) [.slice a_v n c_v] (Box.new _ _ _ _ (by simp))).alloc (.cells #[.slice a_v' n c_v'] 24)).addBox (w.heap.size + 1 + 1) [.slice a_v' n c_v'] (Box.new _ _ _ _ (by simp))).alloc (.cells #[.int .i64 (B : Int)] 2)).addBox (w.heap.size + 1 + 1 + 1) [.int .i64 (B : Int)] (Box.new _ _ _ _ (by simp)))
  have hz : w.heap.size ≤ ((((w.alloc (.cells #[.int .i64 (p : Int)] 2)).alloc (.cells #[.slice a_v n c_v] 24)).alloc (.cells #[.slice a_v' n c_v'] 24)).alloc (.cells #[.int .i64 (B : Int)] 2)).heap.size := ST.1.size
  have bx0 := (ST.alloc (.cells #[.int .i64 0] 2)).box 3 (w.heap.size, [.int .i64 (p : Int)]) rfl
  have bx1 := (ST.alloc (.cells #[.int .i64 0] 2)).box 2 (w.heap.size + 1, [.slice a_v n c_v]) rfl
  have bx2 := (ST.alloc (.cells #[.int .i64 0] 2)).box 1 (w.heap.size + 1 + 1, [.slice a_v' n c_v']) rfl
  have bx3 := (ST.alloc (.cells #[.int .i64 0] 2)).box 0 (w.heap.size + 1 + 1 + 1, [.int .i64 (B : Int)]) rfl
  have sl_v := (h_v.keep ST.1 h_v.size).alloc (.cells #[.int .i64 0] 2)
  have sl_v' := (h_v'.keep ST.1 h_v'.size).alloc (.cells #[.int .i64 0] 2)
  have hmf : ∀ (fn : Fn) (first cap : Array Value) (w : World), (Instr.makeFunc fn first cap).run Tryd.prog w = .ok (.func fn first cap) w := fun _ _ _ _ => rfl
  obtain ⟨W, hW⟩ : ∃ W, ((((w.alloc (.cells #[.int .i64 (p : Int)] 2)).alloc (.cells #[.slice a_v n c_v] 24)).alloc (.cells #[.slice a_v' n c_v'] 24)).alloc (.cells #[.int .i64 (B : Int)] 2)) = W := ⟨_, rfl⟩
  have hst := ST.1
  rw [hW] at hz hst bx0 bx1 bx2 bx3 sl_v sl_v'
  have HC := Lib.hid ((doorI_CountFull_ok (w.heap.size) (w.heap.size + 1) (w.heap.size + 1 + 1) (w.heap.size + 1 + 1 + 1) W ((solT p fa fe 1 n B)) ((CountFull_cl_ok (w.heap.size) (w.heap.size + 1) (w.heap.size + 1 + 1) (w.heap.size + 1 + 1 + 1) p B hp hB h1 h2 h _ bx0 bx1 bx2 bx3 sl_v sl_v').mono (fun e w' ⟨he, hb⟩ => ⟨he, hb.mono (by simp)⟩))))
  clear ST bx0 bx1 bx2 bx3 sl_v h_v sl_v' h_v'
  go_enter Tryd.func20, Tryd.ntmps20
  go_wp2_with fail
  try simp only [World.size_alloc]
  try rw [hW]
  go_wp2_with (go_at_call 57; refine HC.out.mono ?_; rintro e w1 ⟨rfl, b1⟩)
  have BB := hst.trans (b1.mono hz)
  go_ret2
  exact ⟨rfl, BB⟩

set_option maxHeartbeats 2000000 in
theorem CountFull_impl_no (p B : Int) (hB : inR B) (h : ¬ (EqP p n fa m fe ∧ 0 ≤ B ∧ B < p)) (w : World) (ad : Addr) (hG : Gat w ad) (h_v : Sl o w lo hi v n fa) (h_v' : Sl o' w lo' hi' v' m fe) :
    Calls Tryd.prog 20 #[.int .i64 (p : Int), v, v', .int .i64 (B : Int)] w fun e w' => e = .returned (.tuple #[.int .i64 0, .int .i64 2]) ∧ Below w.heap.size w w' := by
  obtain ⟨a_v, c_v, rfl⟩ := h_v.shape
  obtain ⟨a_v', c_v', rfl⟩ := h_v'.shape
  have ST := (((((((((St.start w).alloc (.cells #[.int .i64 (p : Int)] 2)).addBox w.heap.size [.int .i64 (p : Int)] (Box.made _ _ _ _ (fun j v h => by simpa using h))).alloc (.cells #[.slice a_v n c_v] 24)).addBox (w.heap.size + 1) [.slice a_v n c_v] (Box.new _ _ _ _ (by simp))).alloc (.cells #[.slice a_v' m c_v'] 24)).addBox (w.heap.size + 1 + 1) [.slice a_v' m c_v'] (Box.new _ _ _ _ (by simp))).alloc (.cells #[.int .i64 (B : Int)] 2)).addBox (w.heap.size + 1 + 1 + 1) [.int .i64 (B : Int)] (Box.new _ _ _ _ (by simp)))
  have hz : w.heap.size ≤ ((((w.alloc (.cells #[.int .i64 (p : Int)] 2)).alloc (.cells #[.slice a_v n c_v] 24)).alloc (.cells #[.slice a_v' m c_v'] 24)).alloc (.cells #[.int .i64 (B : Int)] 2)).heap.size := ST.1.size
  have bx0 := (ST.alloc (.cells #[.int .i64 0] 2)).box 3 (w.heap.size, [.int .i64 (p : Int)]) rfl
  have bx1 := (ST.alloc (.cells #[.int .i64 0] 2)).box 2 (w.heap.size + 1, [.slice a_v n c_v]) rfl
  have bx2 := (ST.alloc (.cells #[.int .i64 0] 2)).box 1 (w.heap.size + 1 + 1, [.slice a_v' m c_v']) rfl
  have bx3 := (ST.alloc (.cells #[.int .i64 0] 2)).box 0 (w.heap.size + 1 + 1 + 1, [.int .i64 (B : Int)]) rfl
  have sl_v := (h_v.keep ST.1 h_v.size).alloc (.cells #[.int .i64 0] 2)
  have sl_v' := (h_v'.keep ST.1 h_v'.size).alloc (.cells #[.int .i64 0] 2)
  have HG := (hG.keep ST.1).alloc (.cells #[.int .i64 0] 2)
  have hmf : ∀ (fn : Fn) (first cap : Array Value) (w : World), (Instr.makeFunc fn first cap).run Tryd.prog w = .ok (.func fn first cap) w := fun _ _ _ _ => rfl
  obtain ⟨W, hW⟩ : ∃ W, ((((w.alloc (.cells #[.int .i64 (p : Int)] 2)).alloc (.cells #[.slice a_v n c_v] 24)).alloc (.cells #[.slice a_v' m c_v'] 24)).alloc (.cells #[.int .i64 (B : Int)] 2)) = W := ⟨_, rfl⟩
  have hst := ST.1
  rw [hW] at hz hst bx0 bx1 bx2 bx3 sl_v sl_v' HG
  have HC := Lib.hid ((doorI_CountFull_no (w.heap.size) (w.heap.size + 1) (w.heap.size + 1 + 1) (w.heap.size + 1 + 1 + 1) W ad ((CountFull_cl_no (w.heap.size) (w.heap.size + 1) (w.heap.size + 1 + 1) (w.heap.size + 1 + 1 + 1) p B hB h _ ad HG bx0 bx1 bx2 bx3 sl_v sl_v').mono (fun e w' ⟨he, hb⟩ => ⟨he, hb.mono (by simp)⟩))))
  clear ST bx0 bx1 bx2 bx3 sl_v h_v sl_v' h_v' HG hG
  go_enter Tryd.func20, Tryd.ntmps20
  go_wp2_with fail
  try simp only [World.size_alloc]
  try rw [hW]
  go_wp2_with (go_at_call 57; refine HC.out.mono ?_; rintro e w1 ⟨rfl, b1⟩)
  have BB := hst.trans (b1.mono hz)
  go_ret2
  exact ⟨rfl, BB⟩
end

/-! ValueCounts -/
set_option maxHeartbeats 2000000 in
theorem ValueCounts_cl_ok (b0 b1 b2 p a k : Nat) (hp : primeN p = true) (h1 : 1 ≤ a) (h2 : a < p) (h3 : 1 ≤ k) (h4 : k ≤ 60) (w : World)
    (x0 : Box w b0 [.int .i64 (p : Int)]) (x1 : Box w b1 [.int .i64 (a : Int)]) (x2 : Box w b2 [.int .i64 (k : Int)]) :
    Calls Tryd.prog 72 #[.pointer (some ⟨b0, 0, none⟩), .pointer (some ⟨b1, 0, none⟩), .pointer (some ⟨b2, 0, none⟩)] w fun e w' => ∃ a' c', e = .returned (.slice a' p c') ∧ Sl true w' w.heap.size w'.heap.size (.slice a' p c') p (cnT (vN p a k) 0 p) ∧ Below w.heap.size w w' := by
  have hbd := primeN_bd hp
  have HP := Lib.hid hp
  have c0 := x0.c0
  have c1 := x1.c0
  have c2 := x2.c0
  have T1 := Lib.hid (two_made w (a : Int) (k : Int) (by unfold inR; omega) (by unfold inR; omega) 2 rfl)
  have T2 := Lib.hid (two_made w (k : Int) (a : Int) (by unfold inR; omega) (by unfold inR; omega) 2 rfl)
  have X0 := Lib.hid x0
  have X1 := Lib.hid x1
  have X2 := Lib.hid x2
  have H1 := Lib.hid (show ∀ i, i < 1 → 1 ≤ (fun _ => (a : Int)) i ∧ (fun _ => (a : Int)) i < (p : Int) ∧ 1 ≤ (fun _ => (k : Int)) i ∧ (fun _ => (k : Int)) i ≤ 60 from fun i hi => by refine ⟨?_, ?_, ?_, ?_⟩ <;> dsimp only <;> omega)
  have HE := Lib.hid (show ∀ b, solT p (fun _ => (a : Int)) (fun _ => (k : Int)) 0 1 b = wfT p (vN p a k) e0Z 0 p b from fun b => rfl)
  clear hp x0 x1 x2
  go_enter Tryd.func72, Tryd.ntmps72
  go_wp2
  go_region_held3 (fun w' => w'.cell? ⟨b0, 0, none⟩ = some (.int .i64 (p : Int)) ∧ w'.cell? ⟨b1, 0, none⟩ = some (.int .i64 (a : Int)) ∧ w'.cell? ⟨b2, 0, none⟩ = some (.int .i64 (k : Int)))
    (first | exact ⟨c0, c1, c2⟩ | exact ⟨u0, u1, u2⟩ | exact ⟨v0, v1, v2⟩ | go_keep)
    (first
      | (go_at_call 59; first
          | (with_reducible refine (partsOf_ok p HP.out _ T1.out.1 T1.out.2.1 (by omega) (by omega) H1.out).mono ?_; rintro e w1 ⟨rfl, P1, bl1⟩; simp only [World.size_drew, World.size_alloc] at P1; have BL1 := T1.out.2.2.trans (bl1.mono (show w.heap.size ≤ _ by simp; omega)); have u0 := (X0.out.keep BL1).c0; have u1 := (X1.out.keep BL1).c0; have u2 := (X2.out.keep BL1).c0)
          | (with_reducible refine (partsOf_ok p HP.out _ T2.out.2.1 T2.out.1 (by omega) (by omega) H1.out).mono ?_; rintro e w1 ⟨rfl, P1, bl1⟩; simp only [World.size_drew, World.size_alloc] at P1; have BL1 := T2.out.2.2.trans (bl1.mono (show w.heap.size ≤ _ by simp; omega)); have u0 := (X0.out.keep BL1).c0; have u1 := (X1.out.keep BL1).c0; have u2 := (X2.out.keep BL1).c0))
      | (go_at_call 61; with_reducible refine (solutionCounts0 p _ (by omega) hbd.2 _ P1 (by omega) H1.out).mono ?_; rintro e w3 ⟨G, rfl, q3, bl3⟩; have v0 := ((X0.out.keep BL1).keep bl3).c0; have v1 := ((X1.out.keep BL1).keep bl3).c0; have v2 := ((X2.out.keep BL1).keep bl3).c0; have HZ := BL1.size))
  all_goals
    go_wp2
    go_ret
    exact ⟨_, _, rfl, (q3.congr (f' := cnT (vN p a k) 0 p) (fun j hj => ((HE.out j).trans (count_eq (fun x hx => vN_lt (by omega) _ _ _) 0 (Nat.le_refl _) hj)).symm)).wide (lo' := w.heap.size) HZ (Nat.le_refl _) (Nat.le_refl _), BL1.trans (bl3.mono HZ)⟩

set_option maxHeartbeats 2000000 in
theorem ValueCounts_cl_no (b0 b1 b2 : Nat) (p a k : Int) (ha : inR a) (hk : inR k) (h : ¬ EqP p 1 (fun _ => a) 1 (fun _ => k)) (w : World) (ad : Addr) (hG : Gat w ad)
    (x0 : Box w b0 [.int .i64 p]) (x1 : Box w b1 [.int .i64 a]) (x2 : Box w b2 [.int .i64 k]) :
    Calls Tryd.prog 72 #[.pointer (some ⟨b0, 0, none⟩), .pointer (some ⟨b1, 0, none⟩), .pointer (some ⟨b2, 0, none⟩)] w fun e w' => e = .panicked [{ v := .iface 113 (.pointer (some ad)), recovered := false }] ∧ Below w.heap.size w w' := by
  have c0 := x0.c0
  have c1 := x1.c0
  have c2 := x2.c0
  have T1 := Lib.hid (two_made w a k ha hk 2 rfl)
  have T2 := Lib.hid (two_made w k a hk ha 2 rfl)
  have G1 := Lib.hid (hG.keep T1.out.2.2)
  have G2 := Lib.hid (hG.keep T2.out.2.2)
  have H := Lib.hid h
  have k0 : ∀ ob, (w.alloc ob).cell? ⟨b0, 0, none⟩ = some (.int .i64 p) := fun ob => (x0.keep ((Below.refl _ _).alloc (Nat.le_refl _) ob)).c0
  have k1 : ∀ ob, (w.alloc ob).cell? ⟨b1, 0, none⟩ = some (.int .i64 a) := fun ob => (x1.keep ((Below.refl _ _).alloc (Nat.le_refl _) ob)).c0
  have k2 : ∀ ob, (w.alloc ob).cell? ⟨b2, 0, none⟩ = some (.int .i64 k) := fun ob => (x2.keep ((Below.refl _ _).alloc (Nat.le_refl _) ob)).c0
  have m0 : ∀ ob ob', ((w.alloc ob).alloc ob').cell? ⟨b0, 0, none⟩ = some (.int .i64 p) := fun ob ob' => ((x0.keep ((Below.refl _ _).alloc (Nat.le_refl _) ob)).keep ((Below.refl _ _).alloc (Nat.le_refl _) ob')).c0
  clear h x0 x1 x2 hG
  go_enter Tryd.func72, Tryd.ntmps72
  go_wp2
  go_region_held (fun w' => w'.cell? ⟨b0, 0, none⟩ = some (.int .i64 p) ∧ w'.cell? ⟨b1, 0, none⟩ = some (.int .i64 a) ∧ w'.cell? ⟨b2, 0, none⟩ = some (.int .i64 k))
    (first | exact hF.out.elim | exact ⟨c0, c1, c2⟩ | go_keep)
    (first
      | (go_at_call 59; refine (Classical.em False).symm.elim (fun _ => ?_) (fun hF0 => ?_)
         · refine (partsOf_no p _ ad (by first | with_reducible exact G1.out | with_reducible exact G2.out) (by first | with_reducible exact T1.out.1 | with_reducible exact T2.out.2.1) (by first | with_reducible exact T1.out.2.1 | with_reducible exact T2.out.1) H.out).mono ?_
           rintro e w1 ⟨rfl, bl1⟩
           have BL1 : Below w.heap.size w w1 := by
             first
               | with_reducible exact T1.out.2.2.trans (bl1.mono (by simp; omega))
               | with_reducible exact T2.out.2.2.trans (bl1.mono (by simp; omega))
           go_big_unhide; dsimp only [bodyPost]; (first | exact ⟨rfl, BL1⟩ | exact ⟨rfl, rfl, BL1⟩)
         have hF := Lib.hid hF0
         clear hF0
         refine Calls.mono (R := fun e w' => e = .returned (.slice none 0 0)) hF.out.elim ?_
         rintro e w1 rfl)
      | (go_at_call 61; refine Calls.mono (R := fun e w' => e = .returned (.slice none 0 0)) hF.out.elim ?_; rintro e w3 rfl))
  all_goals exact hF.out.elim

set_option maxHeartbeats 2000000 in
theorem ValueCounts_impl_ok (p a k : Nat) (hp : primeN p = true) (h1 : 1 ≤ a) (h2 : a < p) (h3 : 1 ≤ k) (h4 : k ≤ 60) (w : World) :
    Calls Tryd.prog 26 #[.int .i64 (p : Int), .int .i64 (a : Int), .int .i64 (k : Int)] w fun e w' => ∃ a_ k_, e = .returned (.tuple #[.slice a_ p k_, .int .i64 0]) ∧ Sl true w' w.heap.size w'.heap.size (.slice a_ p k_) p (cnT (vN p a k) 0 p) ∧ Below w.heap.size w w' := by
  have ST := (((((((St.start w).alloc (.cells #[.int .i64 (p : Int)] 2)).addBox w.heap.size [.int .i64 (p : Int)] (Box.made _ _ _ _ (fun j v h => by simpa using h))).alloc (.cells #[.int .i64 (a : Int)] 2)).addBox (w.heap.size + 1) [.int .i64 (a : Int)] (Box.new _ _ _ _ (by simp))).alloc (.cells #[.int .i64 (k : Int)] 2)).addBox (w.heap.size + 1 + 1) [.int .i64 (k : Int)] (Box.new _ _ _ _ (by simp)))
  have hz : w.heap.size ≤ (((w.alloc (.cells #[.int .i64 (p : Int)] 2)).alloc (.cells #[.int .i64 (a : Int)] 2)).alloc (.cells #[.int .i64 (k : Int)] 2)).heap.size := ST.1.size
  have bx0 := (ST.alloc (.cells #[.int .i64 0] 2)).box 2 (w.heap.size, [.int .i64 (p : Int)]) rfl
  have bx1 := (ST.alloc (.cells #[.int .i64 0] 2)).box 1 (w.heap.size + 1, [.int .i64 (a : Int)]) rfl
  have bx2 := (ST.alloc (.cells #[.int .i64 0] 2)).box 0 (w.heap.size + 1 + 1, [.int .i64 (k : Int)]) rfl
  have hmf : ∀ (fn : Fn) (first cap : Array Value) (w : World), (Instr.makeFunc fn first cap).run Tryd.prog w = .ok (.func fn first cap) w := fun _ _ _ _ => rfl
  obtain ⟨W, hW⟩ : ∃ W, (((w.alloc (.cells #[.int .i64 (p : Int)] 2)).alloc (.cells #[.int .i64 (a : Int)] 2)).alloc (.cells #[.int .i64 (k : Int)] 2)) = W := ⟨_, rfl⟩
  have hst := ST.1
  rw [hW] at hz hst bx0 bx1 bx2
  have HC := Lib.hid ((doorS_ValueCounts_ok (w.heap.size) (w.heap.size + 1) (w.heap.size + 1 + 1) W (p) ((cnT (vN p a k) 0 p)) ((ValueCounts_cl_ok (w.heap.size) (w.heap.size + 1) (w.heap.size + 1 + 1) p a k hp h1 h2 h3 h4 _ bx0 bx1 bx2).mono (fun e w' ⟨a, k, he, hs, hb⟩ => ⟨a, k, he, hs.wide (by simp) (Nat.le_refl _) (Nat.le_refl _), hb.mono (by simp)⟩))))
  clear ST bx0 bx1 bx2
  go_enter Tryd.func26, Tryd.ntmps26
  go_wp2_with fail
  try simp only [World.size_alloc]
  try rw [hW]
  go_wp2_with (go_at_call 71; refine HC.out.mono ?_; rintro e w1 ⟨a1, k1, rfl, s1, b1⟩)
  have BB := hst.trans (b1.mono hz)
  go_ret2
  exact ⟨_, _, rfl, s1.wide hz (Nat.le_refl _) (Nat.le_refl _), BB⟩

set_option maxHeartbeats 2000000 in
theorem ValueCounts_impl_no (p a k : Int) (ha : inR a) (hk : inR k) (h : ¬ EqP p 1 (fun _ => a) 1 (fun _ => k)) (w : World) (ad : Addr) (hG : Gat w ad) :
    Calls Tryd.prog 26 #[.int .i64 (p : Int), .int .i64 (a : Int), .int .i64 (k : Int)] w fun e w' => e = .returned (.tuple #[.slice none 0 0, .int .i64 2]) ∧ Below w.heap.size w w' := by
  have ST := (((((((St.start w).alloc (.cells #[.int .i64 (p : Int)] 2)).addBox w.heap.size [.int .i64 (p : Int)] (Box.made _ _ _ _ (fun j v h => by simpa using h))).alloc (.cells #[.int .i64 (a : Int)] 2)).addBox (w.heap.size + 1) [.int .i64 (a : Int)] (Box.new _ _ _ _ (by simp))).alloc (.cells #[.int .i64 (k : Int)] 2)).addBox (w.heap.size + 1 + 1) [.int .i64 (k : Int)] (Box.new _ _ _ _ (by simp)))
  have hz : w.heap.size ≤ (((w.alloc (.cells #[.int .i64 (p : Int)] 2)).alloc (.cells #[.int .i64 (a : Int)] 2)).alloc (.cells #[.int .i64 (k : Int)] 2)).heap.size := ST.1.size
  have bx0 := (ST.alloc (.cells #[.int .i64 0] 2)).box 2 (w.heap.size, [.int .i64 (p : Int)]) rfl
  have bx1 := (ST.alloc (.cells #[.int .i64 0] 2)).box 1 (w.heap.size + 1, [.int .i64 (a : Int)]) rfl
  have bx2 := (ST.alloc (.cells #[.int .i64 0] 2)).box 0 (w.heap.size + 1 + 1, [.int .i64 (k : Int)]) rfl
  have HG := (hG.keep ST.1).alloc (.cells #[.int .i64 0] 2)
  have hmf : ∀ (fn : Fn) (first cap : Array Value) (w : World), (Instr.makeFunc fn first cap).run Tryd.prog w = .ok (.func fn first cap) w := fun _ _ _ _ => rfl
  obtain ⟨W, hW⟩ : ∃ W, (((w.alloc (.cells #[.int .i64 (p : Int)] 2)).alloc (.cells #[.int .i64 (a : Int)] 2)).alloc (.cells #[.int .i64 (k : Int)] 2)) = W := ⟨_, rfl⟩
  have hst := ST.1
  rw [hW] at hz hst bx0 bx1 bx2 HG
  have HC := Lib.hid ((doorS_ValueCounts_no (w.heap.size) (w.heap.size + 1) (w.heap.size + 1 + 1) W ad ((ValueCounts_cl_no (w.heap.size) (w.heap.size + 1) (w.heap.size + 1 + 1) p a k ha hk h _ ad HG bx0 bx1 bx2).mono (fun e w' ⟨he, hb⟩ => ⟨he, hb.mono (by simp)⟩))))
  clear ST bx0 bx1 bx2 HG hG
  go_enter Tryd.func26, Tryd.ntmps26
  go_wp2_with fail
  try simp only [World.size_alloc]
  try rw [hW]
  go_wp2_with (go_at_call 71; refine HC.out.mono ?_; rintro e w1 ⟨rfl, b1⟩)
  have BB := hst.trans (b1.mono hz)
  go_ret2
  exact ⟨rfl, BB⟩
end Go.Proofs.YtacffobbbcfbcaaDoor
