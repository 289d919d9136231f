/- Points of curves of powers and least numbers that are no powers, of the program. -/
import Derived.Test.YtacffobbbcfbcaaDoorEqD
namespace Go.Proofs.YtacffobbbcfbcaaDoor
open Go.RowKit Go.ChangeShapes Go.Sort
set_option linter.unusedVariables false
set_option linter.unusedSimpArgs false
set_option maxRecDepth 100000

theorem three_made (w : World) (x y z : Int) (hx : inR x) (hy : inR y) (hz : inR z) (t : TypeId) (ht : t = 2) : Sl true (w.alloc (.cells #[.int .i64 x, .int .i64 y, .int .i64 z] t)) w.heap.size (w.heap.size + 1) (.slice (some ⟨w.heap.size, 0, none⟩) 3 3) 3 (fun i => if i = 0 then x else if i = 1 then y else z) := by
  subst ht
  refine Sl.made w #[.int .i64 x, .int .i64 y, .int .i64 z] 2 3 3 _ (Nat.le_refl _) (by unfold maxLen; omega) (fun j hj => ?_) (fun j hj => ?_)
  · split
    · exact hx
    · split
      · exact hy
      · exact hz
  · match j, hj with
    | 0, _ => rfl
    | 1, _ => rfl
    | 2, _ => rfl
/-- The number of points. -/
def crvN (p m : Nat) : Int := solT p (fun _ => 1) (fun _ => (m : Int)) 0 2 1 + minT p m
theorem crv_bd {p m : Nat} (h1 : 2 ≤ p) (h2 : p ≤ 61) : 0 ≤ crvN p m ∧ crvN p m ≤ 13845841 + 61 := by
  have a := solT_bd4 (p := p) (by omega) h2 (fun _ => 1) (fun _ => (m : Int)) 0 (n := 2) (b := 1) (by omega) (by omega)
  have b : 0 ≤ minT p m ∧ minT p m ≤ (p : Int) * 1 := ⟨smN_nonneg (fun i _ => by split <;> omega), smN_le (fun i _ => by split <;> omega)⟩
  unfold crvN
  omega
/-- m is an exponent, p a prime that doesn't divide it. -/
def CuP (p m : Int) : Prop := PkP p m ∧ ¬ m % p = 0
abbrev faC (p : Nat) (i : Nat) : Int := if i = 0 then 1 else if i = 1 then 1 else (p : Int) - 1
set_option maxHeartbeats 2000000 in
theorem CurvePoints_cl_ok (b0 b1 p m : Nat) (hp : primeN p = true) (h1 : 1 ≤ m) (h2 : m ≤ 60) (h3 : ¬ m % p = 0) (w : World)
    (x0 : Box w b0 [.int .i64 (p : Int)]) (x1 : Box w b1 [.int .i64 (m : Int)]) :
    Calls Tryd.prog 79 #[.pointer (some ⟨b0, 0, none⟩), .pointer (some ⟨b1, 0, none⟩)] w fun e w' => e = .returned (.int .i64 (crvN p m)) ∧ Below w.heap.size w w' := by
  have hbd := primeN_bd hp
  have HP := Lib.hid hp
  have hT := three_made w 1 1 ((p : Int) - 1) (by unfold inR; omega) (by unfold inR; omega) (by unfold inR; omega) _ rfl
  have hU := three_made (w.alloc (.cells #[.int .i64 1, .int .i64 1, .int .i64 ((p : Int) - 1)] 2)) m m m (by unfold inR; omega) (by unfold inR; omega) (by unfold inR; omega) _ rfl
  simp only [World.size_alloc] at hU
  have SA := Lib.hid (hT.alloc (.cells #[.int .i64 (m : Int), .int .i64 (m : Int), .int .i64 (m : Int)] 2))
  have SB := Lib.hid (hU.congr (f' := fun _ => (m : Int)) (fun j hj => by split; rfl; split <;> rfl))
  have bl := ((Below.refl w.heap.size w).alloc (Nat.le_refl _) (.cells #[.int .i64 1, .int .i64 1, .int .i64 ((p : Int) - 1)] 2)).alloc (by simp) (.cells #[.int .i64 (m : Int), .int .i64 (m : Int), .int .i64 (m : Int)] 2)
  have H := Lib.hid (show ∀ i, i < 3 → 1 ≤ faC p i ∧ faC p i < (p : Int) ∧ 1 ≤ (fun _ => (m : Int)) i ∧ (fun _ => (m : Int)) i ≤ 60 from fun i hi => by
    refine ⟨?_, ?_, ?_, ?_⟩
    · unfold faC; split; omega; split <;> omega
    · unfold faC; split; omega; split <;> omega
    · dsimp only; omega
    · dsimp only; omega)
  have c0 := x0.c0
  have c1 := x1.c0
  have hk0 : ∀ ob, (w.alloc ob).cell? ⟨b1, 0, none⟩ = some (.int .i64 (m : Int)) := fun ob => (x1.keep ((Below.refl _ _).alloc (Nat.le_refl _) ob)).c0
  have hp0 : ¬ p = 0 := by omega
  have hpos : 0 < p := by omega
  have hmm : ((m : Int) % (p : Int) != 0) = true := by
    rw [bne_iff_ne, ← Int.natCast_emod]; omega
  have SBD := solT_bd4 (p := p) (by omega) hbd.2 (faC p) (fun _ => (m : Int)) 0 (n := 3) (b := 0) (by omega) (by omega)
  have CQ := curve_eq hp h1 (faC p) rfl rfl rfl (fun _ => 1) rfl rfl
  have CE := three_eq hp h1
  have CS := sol_three (m := m) hp (faC p) rfl rfl rfl
  have hge : 1 ≤ solT p (faC p) (fun _ => (m : Int)) 0 3 0 := by
    rw [CS, CE]
    have t0 : 0 ≤ twoT p m 1 := smN_nonneg (fun i _ => smN_nonneg (fun j _ => by split <;> omega))
    have m0 : 0 ≤ minT p m := smN_nonneg (fun i _ => by split <;> omega)
    have := Int.mul_nonneg (a := ((p - 1 : Nat) : Int)) (b := twoT p m 1 + minT p m) (Int.natCast_nonneg _) (by omega)
    omega
  have HCR := Lib.hid (show (solT p (faC p) (fun _ => (m : Int)) 0 3 0 - 1).tdiv ((p : Int) - 1) = crvN p m from CQ)
  have HCE := Lib.hid (show (solT p (faC p) (fun _ => (m : Int)) 0 3 0 - 1) / ((p : Int) - 1) = crvN p m by rw [← Int.tdiv_eq_ediv_of_nonneg (by omega)]; exact CQ)
  have CB := crv_bd (p := p) (m := m) (by omega) hbd.2
  obtain ⟨S, hS⟩ : ∃ S, solT p (faC p) (fun _ => (m : Int)) 0 3 0 = S := ⟨_, rfl⟩
  obtain ⟨R, hR⟩ : ∃ R, crvN p m = R := ⟨_, rfl⟩
  rw [hS] at SBD hge HCR HCE
  rw [hR] at CB HCR HCE ⊢
  have HSS := Lib.hid hS
  have hws : IntKind.i64.wrap (S - 1) = S - 1 := by rw [IntKind.wrap_i64]; omega
  have hwp : IntKind.i64.wrap ((p : Int) - 1) = (p : Int) - 1 := by rw [IntKind.wrap_i64]; omega
  have hwR : IntKind.i64.wrap R = R := by rw [IntKind.wrap_i64]; omega
  clear hp CQ CE CS hT hU hS hR
  go_enter Tryd.func79, Tryd.ntmps79
  go_wp2_with (first
    | (go_at_call 59; refine (partsOf_ok p HP.out _ SA.out SB.out (by omega) (by omega) H.out).mono ?_; rintro e w1 ⟨rfl, P1, bl1⟩; simp only [World.size_alloc] at P1; have BL1 := bl.trans (bl1.mono (show w.heap.size ≤ _ by simp; omega)); have y0 := x0.keep BL1; have y1 := x1.keep BL1; have c0 := y0.c0; have c1 := y1.c0; have hz1 := BL1.size)
    | (go_at_call 80; refine (demand_ok _).mono ?_; rintro e w2 ⟨rfl, rfl⟩))
  have HP2 := Lib.hid (P1.keep (Below.refl _ _).drew)
  have HY0 := Lib.hid (y0.keep (Below.refl _ _).drew)
  have hp1 : ¬ (p : Int) - 1 = 0 := by omega
  go_region_law (first
    | (go_simp; go_at_call 61; refine (solutionCounts0 p _ (by omega) hbd.2 _ HP2.out (by omega) H.out).mono ?_; rintro e w3 ⟨G, rfl, q3, bl3⟩; have u0 := (HY0.out.keep bl3).c0; have hG := (q3.known (by omega)).2.2.2.1 0 (by omega); rw [Nat.zero_add, HSS.out] at hG; have hR1 := HCR.out; have hR2 := HCE.out))
  all_goals
    go_wp2
    go_ret
    exact ⟨rfl, BL1.drew.trans (bl3.mono hz1)⟩
set_option maxHeartbeats 2000000 in
theorem CurvePoints_cl_no (b0 b1 : Nat) (p m : Int) (hpr : inR p) (hm : inR m) (h : ¬ CuP p m) (w : World) (ad : Addr) (hG : Gat w ad)
    (x0 : Box w b0 [.int .i64 p]) (x1 : Box w b1 [.int .i64 m]) :
    Calls Tryd.prog 79 #[.pointer (some ⟨b0, 0, none⟩), .pointer (some ⟨b1, 0, none⟩)] w fun e w' => e = .panicked [{ v := .iface 113 (.pointer (some ad)), recovered := false }] ∧ Below w.heap.size w w' := by
  have c0 := x0.c0
  have c1 := x1.c0
  have hk1 : ∀ ob, (w.alloc ob).cell? ⟨b1, 0, none⟩ = some (.int .i64 m) := fun ob => (x1.keep ((Below.refl _ _).alloc (Nat.le_refl _) ob)).c0
  have HG := Lib.hid hG
  by_cases hp : PrP p
  · obtain ⟨P, rfl⟩ := Int.eq_ofNat_of_zero_le hp.1
    have hP : primeN P = true := by have := hp.2; rwa [Int.toNat_natCast] at this
    have hbd := primeN_bd hP
    have HP := Lib.hid hP
    have hT := three_made w 1 1 ((P : Int) - 1) (by unfold inR; omega) (by unfold inR; omega) (by unfold inR; omega) _ rfl
    have hU := three_made (w.alloc (.cells #[.int .i64 1, .int .i64 1, .int .i64 ((P : Int) - 1)] 2)) m m m hm hm hm _ rfl
    simp only [World.size_alloc] at hU
    have SA := Lib.hid (hT.alloc (.cells #[.int .i64 m, .int .i64 m, .int .i64 m] 2))
    have SB := Lib.hid (hU.congr (f' := fun _ => m) (fun j hj => by split; rfl; split <;> rfl))
    have bl := ((Below.refl w.heap.size w).alloc (Nat.le_refl _) (.cells #[.int .i64 1, .int .i64 1, .int .i64 ((P : Int) - 1)] 2)).alloc (by simp) (.cells #[.int .i64 m, .int .i64 m, .int .i64 m] 2)
    have G2 := Lib.hid (hG.keep bl)
    by_cases hx : 1 ≤ m ∧ m ≤ 60
    · obtain ⟨h1, h2⟩ := hx
      have hz : m % (P : Int) = 0 := by
        by_cases g : m % (P : Int) = 0
        · exact g
        · exact absurd ⟨⟨hp, h1, h2⟩, g⟩ h
      have hmm : (m % (P : Int) != 0) = false := by rw [hz]; rfl
      have H := Lib.hid (show ∀ i, i < 3 → 1 ≤ faC P i ∧ faC P i < (P : Int) ∧ 1 ≤ (fun _ => m) i ∧ (fun _ => m) i ≤ 60 from fun i hi => by
        refine ⟨?_, ?_, ?_, ?_⟩
        · unfold faC; split; omega; split <;> omega
        · unfold faC; split; omega; split <;> omega
        · exact h1
        · exact h2)
      have hp0 : ¬ P = 0 := by omega
      clear h hp hz hT hU hP hG
      go_enter Tryd.func79, Tryd.ntmps79
      go_wp2_with (first
        | (go_at_call 59; refine (partsOf_ok P HP.out _ SA.out SB.out (by omega) (by omega) H.out).mono ?_; rintro e w1 ⟨rfl, P1, bl1⟩; have BL1 := bl.trans (bl1.mono (show w.heap.size ≤ _ by simp; omega)); have y0 := x0.keep BL1; have y1 := x1.keep BL1; have c0 := y0.c0; have c1 := y1.c0; have HG1 := HG.out.keep BL1)
        | (go_at_call 80; refine (demand_no _ ad HG1).mono ?_; rintro e w2 ⟨rfl, rfl⟩))
      first | exact ⟨rfl, BL1⟩ | exact ⟨rfl, rfl, BL1⟩
    · have H := Lib.hid (show ¬ EqP (P : Int) 3 (faC P) 3 (fun _ => m) from fun g => hx ⟨(g.2.2.2.2 0 (by omega)).2.2.1, (g.2.2.2.2 0 (by omega)).2.2.2⟩)
      clear h hp hT hU hP hG
      go_enter Tryd.func79, Tryd.ntmps79
      go_wp2_with (go_at_call 59; refine (partsOf_no _ _ ad G2.out SA.out SB.out H.out).mono ?_; rintro e w1 ⟨rfl, bl1⟩; have BL1 := bl.trans (bl1.mono (show w.heap.size ≤ _ by simp; omega)))
      first | exact ⟨rfl, BL1⟩ | exact ⟨rfl, rfl, BL1⟩
  · obtain ⟨q, hq⟩ : ∃ q, wrap64 (p - 1) = q := ⟨_, rfl⟩
    have hqr : inR q := by rw [← hq]; exact inR_wrap _
    have hT := three_made w 1 1 q (by unfold inR; omega) (by unfold inR; omega) hqr _ rfl
    have hU := three_made (w.alloc (.cells #[.int .i64 1, .int .i64 1, .int .i64 q] 2)) m m m hm hm hm _ rfl
    simp only [World.size_alloc] at hU
    have SA := Lib.hid (hT.alloc (.cells #[.int .i64 m, .int .i64 m, .int .i64 m] 2))
    have SB := Lib.hid hU
    have bl := ((Below.refl w.heap.size w).alloc (Nat.le_refl _) (.cells #[.int .i64 1, .int .i64 1, .int .i64 q] 2)).alloc (by simp) (.cells #[.int .i64 m, .int .i64 m, .int .i64 m] 2)
    have G2 := Lib.hid (hG.keep bl)
    have HQ := Lib.hid hq
    have H := Lib.hid (show ∀ f1 f2, ¬ EqP p 3 f1 3 f2 from fun f1 f2 g => hp g.1)
    clear h hp hT hU hG hq
    go_enter Tryd.func79, Tryd.ntmps79
    go_wp2_with (rw [HQ.out]; go_at_call 59; refine (partsOf_no _ _ ad G2.out SA.out SB.out (H.out _ _)).mono ?_; rintro e w1 ⟨rfl, bl1⟩; have BL1 := bl.trans (bl1.mono (show w.heap.size ≤ _ by simp; omega)))
    first | exact ⟨rfl, BL1⟩ | exact ⟨rfl, rfl, BL1⟩

set_option maxHeartbeats 2000000 in
theorem CurvePoints_impl_ok (p m : Nat) (hp : primeN p = true) (h1 : 1 ≤ m) (h2 : m ≤ 60) (h3 : ¬ m % p = 0) (w : World) :
    Calls Tryd.prog 34 #[.int .i64 (p : Int), .int .i64 (m : Int)] w fun e w' => e = .returned (.tuple #[.int .i64 (crvN p m), .int .i64 0]) ∧ Below w.heap.size w w' := by
  have ST := (((((St.start w).alloc (.cells #[.int .i64 (p : Int)] 2)).addBox w.heap.size [.int .i64 (p : Int)] (Box.made _ _ _ _ (fun j v h => by simpa using h))).alloc (.cells #[.int .i64 (m : Int)] 2)).addBox (w.heap.size + 1) [.int .i64 (m : Int)] (Box.new _ _ _ _ (by simp)))
  have hz : w.heap.size ≤ ((w.alloc (.cells #[.int .i64 (p : Int)] 2)).alloc (.cells #[.int .i64 (m : Int)] 2)).heap.size := ST.1.size
  have bx0 := (ST.alloc (.cells #[.int .i64 0] 2)).box 1 (w.heap.size, [.int .i64 (p : Int)]) rfl
  have bx1 := (ST.alloc (.cells #[.int .i64 0] 2)).box 0 (w.heap.size + 1, [.int .i64 (m : Int)]) rfl
  have hmf : ∀ (fn : Fn) (first cap : Array Value) (w : World), (Instr.makeFunc fn first cap).run Tryd.prog w = .ok (.func fn first cap) w := fun _ _ _ _ => rfl
  obtain ⟨W, hW⟩ : ∃ W, ((w.alloc (.cells #[.int .i64 (p : Int)] 2)).alloc (.cells #[.int .i64 (m : Int)] 2)) = W := ⟨_, rfl⟩
  have hst := ST.1
  rw [hW] at hz hst bx0 bx1
  have HC := Lib.hid ((doorI_CurvePoints_ok (w.heap.size) (w.heap.size + 1) W ((crvN p m)) ((CurvePoints_cl_ok (w.heap.size) (w.heap.size + 1) p m hp h1 h2 h3 _ bx0 bx1).mono (fun e w' ⟨he, hb⟩ => ⟨he, hb.mono (by simp)⟩))))
  clear ST bx0 bx1
  go_enter Tryd.func34, Tryd.ntmps34
  go_wp2_with fail
  try simp only [World.size_alloc]
  try rw [hW]
  go_wp2_with (go_at_call 57; refine HC.out.mono ?_; rintro e w1 ⟨rfl, b1⟩)
  have BB := hst.trans (b1.mono hz)
  go_ret2
  exact ⟨rfl, BB⟩

set_option maxHeartbeats 2000000 in
theorem CurvePoints_impl_no (p m : Int) (hpr : inR p) (hm : inR m) (h : ¬ CuP p m) (w : World) (ad : Addr) (hG : Gat w ad) :
    Calls Tryd.prog 34 #[.int .i64 (p : Int), .int .i64 (m : Int)] w fun e w' => e = .returned (.tuple #[.int .i64 0, .int .i64 2]) ∧ Below w.heap.size w w' := by
  have ST := (((((St.start w).alloc (.cells #[.int .i64 (p : Int)] 2)).addBox w.heap.size [.int .i64 (p : Int)] (Box.made _ _ _ _ (fun j v h => by simpa using h))).alloc (.cells #[.int .i64 (m : Int)] 2)).addBox (w.heap.size + 1) [.int .i64 (m : Int)] (Box.new _ _ _ _ (by simp)))
  have hz : w.heap.size ≤ ((w.alloc (.cells #[.int .i64 (p : Int)] 2)).alloc (.cells #[.int .i64 (m : Int)] 2)).heap.size := ST.1.size
  have bx0 := (ST.alloc (.cells #[.int .i64 0] 2)).box 1 (w.heap.size, [.int .i64 (p : Int)]) rfl
  have bx1 := (ST.alloc (.cells #[.int .i64 0] 2)).box 0 (w.heap.size + 1, [.int .i64 (m : Int)]) rfl
  have HG := (hG.keep ST.1).alloc (.cells #[.int .i64 0] 2)
  have hmf : ∀ (fn : Fn) (first cap : Array Value) (w : World), (Instr.makeFunc fn first cap).run Tryd.prog w = .ok (.func fn first cap) w := fun _ _ _ _ => rfl
  obtain ⟨W, hW⟩ : ∃ W, ((w.alloc (.cells #[.int .i64 (p : Int)] 2)).alloc (.cells #[.int .i64 (m : Int)] 2)) = W := ⟨_, rfl⟩
  have hst := ST.1
  rw [hW] at hz hst bx0 bx1 HG
  have HC := Lib.hid ((doorI_CurvePoints_no (w.heap.size) (w.heap.size + 1) W ad ((CurvePoints_cl_no (w.heap.size) (w.heap.size + 1) p m hpr hm h _ ad HG bx0 bx1).mono (fun e w' ⟨he, hb⟩ => ⟨he, hb.mono (by simp)⟩))))
  clear ST bx0 bx1 HG hG
  go_enter Tryd.func34, Tryd.ntmps34
  go_wp2_with fail
  try simp only [World.size_alloc]
  try rw [hW]
  go_wp2_with (go_at_call 57; refine HC.out.mono ?_; rintro e w1 ⟨rfl, b1⟩)
  have BB := hst.trans (b1.mono hz)
  go_ret2
  exact ⟨rfl, BB⟩

theorem CurveDefect_impl_ok (p m : Nat) (hp : primeN p = true) (h1 : 1 ≤ m) (h2 : m ≤ 60) (h3 : ¬ m % p = 0) (w : World) :
    Calls Tryd.prog 36 #[.int .i64 (p : Int), .int .i64 (m : Int)] w fun e w' => e = .returned (.tuple #[.int .i64 ((p : Int) + 1 - crvN p m), .int .i64 0]) ∧ Below w.heap.size w w' := by
  have hbd := primeN_bd hp
  have HP := Lib.hid hp
  have H3 := Lib.hid h3
  have CB := crv_bd (p := p) (m := m) (by omega) hbd.2
  clear hp h3
  go_enter Tryd.func36, Tryd.ntmps36
  go_wp2_with (go_at_call 34; refine (CurvePoints_impl_ok p m HP.out h1 h2 H3.out _).mono ?_; rintro e w1 ⟨rfl, b1⟩)
  go_ret2
  exact ⟨rfl, b1⟩
theorem CurveDefect_impl_no (p m : Int) (hpr : inR p) (hm : inR m) (h : ¬ CuP p m) (w : World) (ad : Addr) (hG : Gat w ad) :
    Calls Tryd.prog 36 #[.int .i64 p, .int .i64 m] w fun e w' => e = .returned (.tuple #[.int .i64 0, .int .i64 2]) ∧ Below w.heap.size w w' := by
  have H := Lib.hid h
  have HG := Lib.hid hG
  clear h hG
  go_enter Tryd.func36, Tryd.ntmps36
  go_wp2_with (go_at_call 34; refine (CurvePoints_impl_no p m hpr hm H.out _ ad HG.out).mono ?_; rintro e w1 ⟨rfl, b1⟩)
  go_ret2
  exact ⟨rfl, b1⟩
end Go.Proofs.YtacffobbbcfbcaaDoor
