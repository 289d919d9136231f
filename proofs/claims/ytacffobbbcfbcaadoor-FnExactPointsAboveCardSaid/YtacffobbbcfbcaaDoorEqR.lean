/- Points above polynomials, of the program and of the model. -/
import Derived.Test.YtacffobbbcfbcaaDoorEqH
import Derived.Test.YtacffobbbcfbcaaDoorEqP
namespace Go.Proofs.YtacffobbbcfbcaaDoor
open Go.RowKit Go.ChangeShapes Go.Sort
set_option linter.unusedVariables false
set_option linter.unusedSimpArgs false
set_option maxRecDepth 100000

/-- The points above f. -/
def paN (p k : Nat) (f : Nat → Int) (n : Nat) : Int := smN p (fun x => cnT (vN p 1 k) 0 p (plV f n p x))
def paT (p k : Nat) (f : Nat → Int) (n m : Nat) : Int := smN m (fun b => cnT (plV f n p) 0 p b * cnT (vN p 1 k) 0 p b)
theorem paT_succ (p k : Nat) (f : Nat → Int) (n m : Nat) : paT p k f n (m + 1) = paT p k f n m + cnT (plV f n p) 0 p m * cnT (vN p 1 k) 0 p m := rfl
theorem pa_eq {p k : Nat} (f : Nat → Int) (n : Nat) (h : 1 ≤ p) : paT p k f n p = paN p k f n := over_values (fun b => cnT (vN p 1 k) 0 p b) (fun x _ => plV_lt h x)
theorem pa_bd {p k : Nat} (f : Nat → Int) (n m : Nat) (hp : p ≤ 61) (hm : m ≤ p) : 0 ≤ paT p k f n m ∧ paT p k f n m ≤ 61 * (61 * 61) := by
  have h : ∀ b, 0 ≤ cnT (plV f n p) 0 p b * cnT (vN p 1 k) 0 p b ∧ cnT (plV f n p) 0 p b * cnT (vN p 1 k) 0 p b ≤ 61 * 61 := fun b => by
    have a := cnT_bd (plV f n p) 0 p b
    have c := cnT_bd (vN p 1 k) 0 p b
    exact ⟨Int.mul_nonneg a.1 c.1, Int.mul_le_mul (by omega) (by omega) c.1 (by omega)⟩
  unfold paT
  refine ⟨smN_nonneg (fun i _ => (h i).1), Int.le_trans (smN_le (B := 61 * 61) (fun i _ => (h i).2)) ?_⟩
  exact Int.mul_le_mul_of_nonneg_right (by omega) (by omega)
theorem paN_bd {p k : Nat} (f : Nat → Int) (n m : Nat) (hp : p ≤ 61) (hm : m ≤ p) : 0 ≤ smN m (fun x => cnT (vN p 1 k) 0 p (plV f n p x)) ∧ smN m (fun x => cnT (vN p 1 k) 0 p (plV f n p x)) ≤ 61 * 61 := by
  have h : ∀ b, 0 ≤ cnT (vN p 1 k) 0 p b ∧ cnT (vN p 1 k) 0 p b ≤ 61 := fun b => by have := cnT_bd (vN p 1 k) 0 p b; omega
  refine ⟨smN_nonneg (fun i _ => (h _).1), Int.le_trans (smN_le (B := 61) (fun i _ => (h _).2)) ?_⟩
  exact Int.mul_le_mul_of_nonneg_right (by omega) (by omega)
/-- p, k and f are as told. -/
def PaP (p k : Int) (n : Nat) (f : Nat → Int) : Prop := PkP p k ∧ 1 ≤ n ∧ n ≤ 8 ∧ ResP f n p
section
variable {o : Bool} {lo hi : Nat} {v : Value} {n : Nat} {f : Nat → Int}
set_option maxHeartbeats 4000000 in
theorem PointsAbove_cl_ok (b0 b1 b2 p k : Nat) (hp : primeN p = true) (h1 : 1 ≤ k) (h2 : k ≤ 60) (h3 : 1 ≤ n) (h4 : n ≤ 8) (hr : ResP f n (p : Int)) (w : World) (x0 : Box w b0 [.int .i64 (p : Int)]) (x1 : Box w b1 [.int .i64 (k : Int)]) (x2 : Box w b2 [v]) (hs : Sl o w lo hi v n f) :
    Calls Tryd.prog 87 #[.pointer (some ⟨b0, 0, none⟩), .pointer (some ⟨b1, 0, none⟩), .pointer (some ⟨b2, 0, none⟩)] w fun e w' => e = .returned (.int .i64 (paN p k f n)) ∧ Below w.heap.size w w' := by
  have hbd := primeN_bd hp
  have HP := Lib.hid hp
  have HR := Lib.hid hr
  have HW := Lib.hid (show Within f n 1000000000 from fun i hi => by have := hr i hi; omega)
  have hd8 : decide ((n : Int) ≤ 8) = true := decide_eq_true (by omega)
  have hd1 : decide ((1 : Int) ≤ (n : Int)) = true := decide_eq_true (by omega)
  have HPA := Lib.hid (pa_eq (k := k) f n (show 1 ≤ p by omega))
  obtain ⟨av, cv, rfl⟩ := hs.shape
  have c0 := x0.c0
  have c1 := x1.c0
  have ST0 := Lib.hid ((((((St.start w).addBox b0 [.int .i64 (p : Int)] x0).addBox b1 [.int .i64 (k : Int)] x1).addBox b2 [.slice av n cv] x2).addSl ⟨o, lo, hi, .slice av n cv, n, f⟩ hs))
  clear hp hr hs x0 x1 x2
  go_enter Tryd.func87, Tryd.ntmps87
  go_wp2_with (first
    | (go_at_call 78; refine (powerOf_ok p k HP.out h1 h2 _).mono ?_; rintro e w1 ⟨rfl, bl1⟩; have st1 := ((ST0.out.keep bl1).alloc (.cells #[.int .i64 1, .int .i64 (k : Int)] 76)).addBox w1.heap.size [.int .i64 1, .int .i64 (k : Int)] (Box.made _ _ _ _ (fun j v h => by simpa using h)); have d0 := (st1.box 3 (b0, [.int .i64 (p : Int)]) rfl).c0; have d2 := (st1.box 1 (b2, [.slice av n cv]) rfl).c0; have ST1 := Lib.hid st1; clear st1)
    | (go_at_call 80; refine (demand_ok _).mono ?_; rintro e w2 ⟨rfl, rfl⟩)
    | (go_at_call 60; refine (demandResidues_ok _ _ (by omega) (by omega) (ST1.out.sl 0 ⟨o, lo, hi, .slice av n cv, n, f⟩ rfl) HR.out).mono ?_; rintro e w2 ⟨rfl, rfl⟩; have bx := ST1.out.box 0 (w1.heap.size, [.int .i64 1, .int .i64 (k : Int)]) rfl; dsimp only at bx; have e0 := bx.2.1 0 _ rfl; have e1 := bx.2.1 1 _ rfl)
    | (go_at_call 77; refine (countsOf_power1 p k (by omega) hbd.2 h2 _).mono ?_; rintro e w3 ⟨G, rfl, q3, bl3⟩; have st3 := ST1.out.keep bl3; have g0 := (st3.box 3 (b0, [.int .i64 (p : Int)]) rfl).c0; have g2 := (st3.box 1 (b2, [.slice av n cv]) rfl).c0; have hq3 := q3.size)
    | (go_at_call 88; refine (countsOf_poly p (by omega) hbd.2 _ (st3.sl 0 ⟨o, lo, hi, .slice av n cv, n, f⟩ rfl) h3 h4 HW.out).mono ?_; rintro e w4 ⟨G2, rfl, q4, bl4⟩; have st4 := st3.keep bl4; have q34 := q3.keep bl4 hq3))
  have BB := st4.1
  have Q3 := Lib.hid q34
  have Q4 := Lib.hid q4
  clear st3 st4 q3 q4 q34 bl3 bl4 g0 g2 d0 d2 e0 e1
  go_loopw [5, 31] (fun s5 s31 wr => ∃ b : Nat, b ≤ p ∧ s5 = .int .i64 (paT p k f n b) ∧ s31 = .int .i64 (b : Int) ∧ wr = w4) (fun _ s31 _ => p - (intOf s31).toNat)
  case atStart => exact ⟨0, by omega, rfl, rfl, rfl⟩
  case round =>
    obtain ⟨b, hb, rfl, rfl, rfl⟩ := hrel
    by_cases hlt : b < p
    · have hc3 := (Q3.out.known (by omega)).2.2.2.1 b hlt
      have hc4 := (Q4.out.known (by omega)).2.2.2.1 b hlt
      rw [Nat.zero_add] at hc3 hc4
      have hS := Lib.hid (paT_succ p k f n b)
      have hB := pa_bd (k := k) f n b hbd.2 (by omega)
      have hB2 := pa_bd (k := k) f n (b + 1) hbd.2 (by omega)
      have a1 := cnT_bd (plV f n p) 0 p b
      have a2 := cnT_bd (vN p 1 k) 0 p b
      rw [hS.out] at hB2
      obtain ⟨y, hy⟩ : ∃ y, cnT (plV f n p) 0 p b = y := ⟨_, rfl⟩
      obtain ⟨z, hz⟩ : ∃ z, cnT (vN p 1 k) 0 p b = z := ⟨_, rfl⟩
      rw [hy] at hc4 a1 hB2
      rw [hz] at hc3 a2 hB2
      have HY := Lib.hid hy
      have HZ := Lib.hid hz
      have hm0 : 0 ≤ y * z := Int.mul_nonneg a1.1 a2.1
      have hm1 : y * z ≤ 61 * 61 := Int.mul_le_mul (by omega) (by omega) a2.1 (by omega)
      clear hy hz
      go_wp2
      go_roundw
      case rel => exact ⟨b + 1, by omega, by rw [hS.out, HY.out, HZ.out], by go_num, by first | rfl | trivial⟩
      case measure => simp [intOf]; omega
    · obtain rfl : b = p := by omega
      go_wp2
      go_ret
      exact ⟨by rw [← HPA.out]; rfl, BB⟩
set_option maxHeartbeats 4000000 in
theorem PointsAbove_cl_no (b0 b1 b2 : Nat) (p k : Int) (hk : inR k) (h : ¬ PaP p k n f) (w : World) (ad : Addr) (hG : Gat w ad) (x0 : Box w b0 [.int .i64 p]) (x1 : Box w b1 [.int .i64 k]) (x2 : Box w b2 [v]) (hs : Sl o w lo hi v n f) :
    Calls Tryd.prog 87 #[.pointer (some ⟨b0, 0, none⟩), .pointer (some ⟨b1, 0, none⟩), .pointer (some ⟨b2, 0, none⟩)] w fun e w' => e = .panicked [{ v := .iface 113 (.pointer (some ad)), recovered := false }] ∧ Below w.heap.size w w' := by
  obtain ⟨av, cv, rfl⟩ := hs.shape
  have c0 := x0.c0
  have c1 := x1.c0
  have HG := Lib.hid hG
  have hl := hs.len
  unfold maxLen at hl
  have ST0 := Lib.hid ((((((St.start w).addBox b0 [.int .i64 p] x0).addBox b1 [.int .i64 k] x1).addBox b2 [.slice av n cv] x2).addSl ⟨o, lo, hi, .slice av n cv, n, f⟩ hs))
  clear hs x0 x1 x2 hG
  by_cases hP : PkP p k
  · obtain ⟨P, K, rfl, rfl, hp, h1, h2⟩ := hP.nat
    have hbd := primeN_bd hp
    have HP := Lib.hid hp
    have hres := fun (g : 1 ≤ n) (g2 : n ≤ 8) => show ¬ ResP f n (P : Int) from fun g3 => h ⟨hP, g, g2, g3⟩
    have HRS := Lib.hid hres
    clear h hP hp hres
    by_cases g1 : 1 ≤ n
    · by_cases g2 : n ≤ 8
      · have HN := Lib.hid (HRS.out g1 g2)
        have hd8 : decide ((n : Int) ≤ 8) = true := decide_eq_true (by omega)
        have hd1 : decide ((1 : Int) ≤ (n : Int)) = true := decide_eq_true (by omega)
        go_enter Tryd.func87, Tryd.ntmps87
        go_wp2_with (first
          | (go_at_call 78; refine (powerOf_ok P K HP.out h1 h2 _).mono ?_; rintro e w1 ⟨rfl, bl1⟩; have st1 := ((ST0.out.keep bl1).alloc (.cells #[.int .i64 1, .int .i64 (K : Int)] 76)).addBox w1.heap.size [.int .i64 1, .int .i64 (K : Int)] (Box.made _ _ _ _ (fun j v h => by simpa using h)); have d0 := (st1.box 3 (b0, [.int .i64 (P : Int)]) rfl).c0; have d2 := (st1.box 1 (b2, [.slice av n cv]) rfl).c0; have HG1 := HG.out.keep st1.1; have ST1 := Lib.hid st1; clear st1)
          | (go_at_call 80; refine (demand_ok _).mono ?_; rintro e w2 ⟨rfl, rfl⟩)
          | (go_at_call 60; refine (demandResidues_no _ _ ad HG1 (by omega) (by omega) (ST1.out.sl 0 ⟨o, lo, hi, .slice av n cv, n, f⟩ rfl) HN.out).mono ?_; rintro e w2 ⟨rfl, rfl⟩))
        have BL1 := ST1.out.1
        first | exact ⟨rfl, BL1⟩ | exact ⟨rfl, rfl, BL1⟩
      · clear HRS
        have hd8 : decide ((n : Int) ≤ 8) = false := decide_eq_false (by omega)
        have hd1 : decide ((1 : Int) ≤ (n : Int)) = true := decide_eq_true (by omega)
        go_enter Tryd.func87, Tryd.ntmps87
        go_wp2_with (first
          | (go_at_call 78; refine (powerOf_ok P K HP.out h1 h2 _).mono ?_; rintro e w1 ⟨rfl, bl1⟩; have st1 := ((ST0.out.keep bl1).alloc (.cells #[.int .i64 1, .int .i64 (K : Int)] 76)); have d2 := (st1.box 0 (b2, [.slice av n cv]) rfl).c0; have HG1 := HG.out.keep st1.1; have ST1 := Lib.hid st1; clear st1)
          | (go_at_call 80; refine (demand_no _ ad HG1).mono ?_; rintro e w2 ⟨rfl, rfl⟩))
        have BL1 := ST1.out.1
        first | exact ⟨rfl, BL1⟩ | exact ⟨rfl, rfl, BL1⟩
    · clear HRS
      go_enter Tryd.func87, Tryd.ntmps87
      go_wp2_with (first
        | (go_at_call 78; refine (powerOf_ok P K HP.out h1 h2 _).mono ?_; rintro e w1 ⟨rfl, bl1⟩; have st1 := ((ST0.out.keep bl1).alloc (.cells #[.int .i64 1, .int .i64 (K : Int)] 76)); have d2 := (st1.box 0 (b2, [.slice av n cv]) rfl).c0; have HG1 := HG.out.keep st1.1; have ST1 := Lib.hid st1; clear st1)
        | (go_at_call 80; refine (demand_no _ ad HG1).mono ?_; rintro e w2 ⟨rfl, rfl⟩))
      have BL1 := ST1.out.1
      first | exact ⟨rfl, BL1⟩ | exact ⟨rfl, rfl, BL1⟩
  · have H := Lib.hid hP
    clear h hP
    go_enter Tryd.func87, Tryd.ntmps87
    go_wp2_with (go_at_call 78; refine (powerOf_no p k hk H.out _ ad HG.out).mono ?_; rintro e w1 ⟨rfl, BL1⟩)
    first | exact ⟨rfl, BL1⟩ | exact ⟨rfl, rfl, BL1⟩

set_option maxHeartbeats 2000000 in
theorem PointsAbove_impl_ok (p k : Nat) (hp : primeN p = true) (h1 : 1 ≤ k) (h2 : k ≤ 60) (h3 : 1 ≤ n) (h4 : n ≤ 8) (hr : ResP f n (p : Int)) (w : World) (h_v : Sl o w lo hi v n f) :
    Calls Tryd.prog 42 #[.int .i64 (p : Int), .int .i64 (k : Int), v] w fun e w' => e = .returned (.tuple #[.int .i64 (paN p k f n), .int .i64 0]) ∧ Below w.heap.size w w' := by
  obtain ⟨a_v, c_v, rfl⟩ := h_v.shape
  have ST := (((((((St.start w).alloc (.cells #[.int .i64 (p : Int)] 2)).addBox w.heap.size [.int .i64 (p : Int)] (Box.made _ _ _ _ (fun j v h => by simpa using h))).alloc (.cells #[.int .i64 (k : Int)] 2)).addBox (w.heap.size + 1) [.int .i64 (k : Int)] (Box.new _ _ _ _ (by simp))).alloc (.cells #[.slice a_v n c_v] 24)).addBox (w.heap.size + 1 + 1) [.slice a_v n c_v] (Box.new _ _ _ _ (by simp)))
  have hz : w.heap.size ≤ (((w.alloc (.cells #[.int .i64 (p : Int)] 2)).alloc (.cells #[.int .i64 (k : Int)] 2)).alloc (.cells #[.slice a_v n c_v] 24)).heap.size := ST.1.size
  have bx0 := (ST.alloc (.cells #[.int .i64 0] 2)).box 2 (w.heap.size, [.int .i64 (p : Int)]) rfl
  have bx1 := (ST.alloc (.cells #[.int .i64 0] 2)).box 1 (w.heap.size + 1, [.int .i64 (k : Int)]) rfl
  have bx2 := (ST.alloc (.cells #[.int .i64 0] 2)).box 0 (w.heap.size + 1 + 1, [.slice a_v n c_v]) rfl
  have sl_v := (h_v.keep ST.1 h_v.size).alloc (.cells #[.int .i64 0] 2)
  have hmf : ∀ (fn : Fn) (first cap : Array Value) (w : World), (Instr.makeFunc fn first cap).run Tryd.prog w = .ok (.func fn first cap) w := fun _ _ _ _ => rfl
  obtain ⟨W, hW⟩ : ∃ W, (((w.alloc (.cells #[.int .i64 (p : Int)] 2)).alloc (.cells #[.int .i64 (k : Int)] 2)).alloc (.cells #[.slice a_v n c_v] 24)) = W := ⟨_, rfl⟩
  have hst := ST.1
  rw [hW] at hz hst bx0 bx1 bx2 sl_v
  have HC := Lib.hid ((doorI_PointsAbove_ok (w.heap.size) (w.heap.size + 1) (w.heap.size + 1 + 1) W ((paN p k f n)) ((PointsAbove_cl_ok (w.heap.size) (w.heap.size + 1) (w.heap.size + 1 + 1) p k hp h1 h2 h3 h4 hr _ bx0 bx1 bx2 sl_v).mono (fun e w' ⟨he, hb⟩ => ⟨he, hb.mono (by simp)⟩))))
  clear ST bx0 bx1 bx2 sl_v h_v
  go_enter Tryd.func42, Tryd.ntmps42
  go_wp2_with fail
  try simp only [World.size_alloc]
  try rw [hW]
  go_wp2_with (go_at_call 57; refine HC.out.mono ?_; rintro e w1 ⟨rfl, b1⟩)
  have BB := hst.trans (b1.mono hz)
  go_ret2
  exact ⟨rfl, BB⟩

set_option maxHeartbeats 2000000 in
theorem PointsAbove_impl_no (p k : Int) (hk : inR k) (h : ¬ PaP p k n f) (w : World) (ad : Addr) (hG : Gat w ad) (h_v : Sl o w lo hi v n f) :
    Calls Tryd.prog 42 #[.int .i64 (p : Int), .int .i64 (k : Int), v] w fun e w' => e = .returned (.tuple #[.int .i64 0, .int .i64 2]) ∧ Below w.heap.size w w' := by
  obtain ⟨a_v, c_v, rfl⟩ := h_v.shape
  have ST := (((((((St.start w).alloc (.cells #[.int .i64 (p : Int)] 2)).addBox w.heap.size [.int .i64 (p : Int)] (Box.made _ _ _ _ (fun j v h => by simpa using h))).alloc (.cells #[.int .i64 (k : Int)] 2)).addBox (w.heap.size + 1) [.int .i64 (k : Int)] (Box.new _ _ _ _ (by simp))).alloc (.cells #[.slice a_v n c_v] 24)).addBox (w.heap.size + 1 + 1) [.slice a_v n c_v] (Box.new _ _ _ _ (by simp)))
  have hz : w.heap.size ≤ (((w.alloc (.cells #[.int .i64 (p : Int)] 2)).alloc (.cells #[.int .i64 (k : Int)] 2)).alloc (.cells #[.slice a_v n c_v] 24)).heap.size := ST.1.size
  have bx0 := (ST.alloc (.cells #[.int .i64 0] 2)).box 2 (w.heap.size, [.int .i64 (p : Int)]) rfl
  have bx1 := (ST.alloc (.cells #[.int .i64 0] 2)).box 1 (w.heap.size + 1, [.int .i64 (k : Int)]) rfl
  have bx2 := (ST.alloc (.cells #[.int .i64 0] 2)).box 0 (w.heap.size + 1 + 1, [.slice a_v n c_v]) rfl
  have sl_v := (h_v.keep ST.1 h_v.size).alloc (.cells #[.int .i64 0] 2)
  have HG := (hG.keep ST.1).alloc (.cells #[.int .i64 0] 2)
  have hmf : ∀ (fn : Fn) (first cap : Array Value) (w : World), (Instr.makeFunc fn first cap).run Tryd.prog w = .ok (.func fn first cap) w := fun _ _ _ _ => rfl
  obtain ⟨W, hW⟩ : ∃ W, (((w.alloc (.cells #[.int .i64 (p : Int)] 2)).alloc (.cells #[.int .i64 (k : Int)] 2)).alloc (.cells #[.slice a_v n c_v] 24)) = W := ⟨_, rfl⟩
  have hst := ST.1
  rw [hW] at hz hst bx0 bx1 bx2 sl_v HG
  have HC := Lib.hid ((doorI_PointsAbove_no (w.heap.size) (w.heap.size + 1) (w.heap.size + 1 + 1) W ad ((PointsAbove_cl_no (w.heap.size) (w.heap.size + 1) (w.heap.size + 1 + 1) p k hk h _ ad HG bx0 bx1 bx2 sl_v).mono (fun e w' ⟨he, hb⟩ => ⟨he, hb.mono (by simp)⟩))))
  clear ST bx0 bx1 bx2 sl_v h_v HG hG
  go_enter Tryd.func42, Tryd.ntmps42
  go_wp2_with fail
  try simp only [World.size_alloc]
  try rw [hW]
  go_wp2_with (go_at_call 57; refine HC.out.mono ?_; rintro e w1 ⟨rfl, b1⟩)
  have BB := hst.trans (b1.mono hz)
  go_ret2
  exact ⟨rfl, BB⟩
end
end Go.Proofs.YtacffobbbcfbcaaDoor
