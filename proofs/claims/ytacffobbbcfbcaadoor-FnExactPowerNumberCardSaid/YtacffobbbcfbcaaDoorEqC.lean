/- Powers alone, and counts of values of forms, of the program. -/
import Derived.Test.YtacffobbbcfbcaaDoorEqA
namespace Go.Proofs.YtacffobbbcfbcaaDoor
open Go.RowKit Go.ChangeShapes Go.Sort
set_option linter.unusedVariables false
set_option linter.unusedSimpArgs false
set_option maxRecDepth 100000

theorem Box.two {w : World} {b : Nat} {v0 v1 : Value} (h : Box w b [v0, v1]) (u0 u1 : Value) : Box ((w.setCell ⟨b, 0, none⟩ u0).setCell ⟨b, 1, none⟩ u1) b [u0, u1] := by
  refine ⟨by simpa [World.setCell] using h.1, fun j v hv => ?_, fun k => by rw [World.frozen?_setCell, World.frozen?_setCell]; exact h.2.2 k⟩
  match j, hv with
  | 0, hv =>
    cases hv
    rw [setCell_ne _ _ _ _ _ (by omega)]
    exact World.cell?_setCell_same _ _ _ (h.2.1 0 _ rfl)
  | 1, hv =>
    cases hv
    refine World.cell?_setCell_same _ _ _ (?_ : _ = some v1)
    rw [setCell_ne _ _ _ _ _ (by omega)]
    exact h.2.1 1 _ rfl
  | j + 2, hv => simp at hv
/-- k is an exponent, p a prime. -/
def PkP (p k : Int) : Prop := PrP p ∧ 1 ≤ k ∧ k ≤ 60
theorem PkP.nat {p k : Int} (h : PkP p k) : ∃ P K : Nat, p = P ∧ k = K ∧ primeN P = true ∧ 1 ≤ K ∧ K ≤ 60 := by
  obtain ⟨hp, h1, h2⟩ := h
  obtain ⟨P, rfl⟩ := Int.eq_ofNat_of_zero_le hp.1
  obtain ⟨K, rfl⟩ := Int.eq_ofNat_of_zero_le (show 0 ≤ k by omega)
  exact ⟨P, K, rfl, rfl, by have := hp.2; rwa [Int.toNat_natCast] at this, by omega, by omega⟩
theorem one_made (w : World) (x : Int) (hx : inR x) (t : TypeId) (ht : t = 2) : Sl true (w.alloc (.cells #[.int .i64 x] t)) w.heap.size (w.heap.size + 1) (.slice (some ⟨w.heap.size, 0, none⟩) 1 1) 1 (fun _ => x) := by
  subst ht
  exact Sl.made w #[.int .i64 x] 2 1 1 (fun _ => x) (Nat.le_refl _) (by unfold maxLen; omega) (fun j hj => hx) (fun j hj => by have hj' : j < 1 := hj; obtain rfl : j = 0 := (by omega); rfl)
set_option maxHeartbeats 2000000 in
theorem powerOf_ok (p k : Nat) (hp : primeN p = true) (h1 : 1 ≤ k) (h2 : k ≤ 60) (w : World) :
    Calls Tryd.prog 78 #[.int .i64 (p : Int), .int .i64 (k : Int)] w fun e w' => e = .returned (.agg #[.int .i64 1, .int .i64 (k : Int)]) ∧ Below w.heap.size w w' := by
  have HP := Lib.hid hp
  have hbd := primeN_bd hp
  have st0 := (((St.start w).alloc (.cells #[.int .i64 0, .int .i64 0] 76)).addBox w.heap.size [.int .i64 0, .int .i64 0] (Box.made _ _ _ _ (fun j v h => by simpa using h)))
  replace st0 := (st0.alloc (.cells #[.int .i64 1] 2)).addSl ⟨true, w.heap.size + 1, w.heap.size + 2, .slice (some ⟨w.heap.size + 1, 0, none⟩) 1 1, 1, fun _ => 1⟩ (by simpa using one_made (w.alloc (.cells #[.int .i64 0, .int .i64 0] 76)) 1 (by unfold inR; omega) _ rfl)
  replace st0 := (st0.alloc (.cells #[.int .i64 (k : Int)] 2)).addSl ⟨true, w.heap.size + 2, w.heap.size + 3, .slice (some ⟨w.heap.size + 1 + 1, 0, none⟩) 1 1, 1, fun _ => (k : Int)⟩ (by simpa using one_made ((w.alloc (.cells #[.int .i64 0, .int .i64 0] 76)).alloc (.cells #[.int .i64 1] 2)) (k : Int) (by unfold inR; omega) _ rfl)
  have sA := st0.sl 1 ⟨true, w.heap.size + 1, w.heap.size + 2, .slice (some ⟨w.heap.size + 1, 0, none⟩) 1 1, 1, fun _ => 1⟩ rfl
  have sB := st0.sl 0 ⟨true, w.heap.size + 2, w.heap.size + 3, .slice (some ⟨w.heap.size + 1 + 1, 0, none⟩) 1 1, 1, fun _ => k⟩ rfl
  dsimp only at sA sB
  have SA := Lib.hid sA
  have SB := Lib.hid sB
  clear sA sB
  have ST := Lib.hid st0
  clear st0 hp
  go_enter Tryd.func78, Tryd.ntmps78
  go_wp2_with (go_at_call 59; refine (partsOf_ok p HP.out _ SA.out SB.out (by omega) (by omega) (fun i hi => by refine ⟨?_, ?_, ?_, ?_⟩ <;> (try dsimp only) <;> omega)).mono ?_; rintro e w1 ⟨rfl, P1, b1⟩; have st1 := ST.out.keep b1; have bx := st1.box 0 (w.heap.size, [.int .i64 0, .int .i64 0]) rfl; dsimp only at bx; have c0 := bx.2.1 0 _ rfl; have c1 := bx.2.1 1 _ rfl; have f0 := bx.2.2; have d0 := (P1.2.1 0 (by omega)).1; have d1 := (P1.2.1 0 (by omega)).2; simp only [Nat.zero_mul, Nat.zero_add, World.size_alloc] at d0 d1)
  have bs := (bx.two (.int .i64 1) (.int .i64 (k : Int)))
  have e0 := bs.2.1 0 _ rfl
  have e1 := bs.2.1 1 _ rfl
  refine bodyPost_ret (v := .agg #[.int .i64 1, .int .i64 (k : Int)]) (by simp [results, Tryd.results78, go_sem, e0, e1]) rfl ?_
  exact ⟨rfl, (st1.1.setCell (p := ⟨w.heap.size, 0, none⟩) (Nat.le_refl _) _).setCell (p := ⟨w.heap.size, 1, none⟩) (Nat.le_refl _) _⟩
set_option maxHeartbeats 2000000 in
theorem powerOf_no (p k : Int) (hk : inR k) (h : ¬ PkP p k) (w : World) (ad : Addr) (hG : Gat w ad) :
    Calls Tryd.prog 78 #[.int .i64 p, .int .i64 k] w fun e w' => e = .panicked [{ v := .iface 113 (.pointer (some ad)), recovered := false }] ∧ Below w.heap.size w w' := by
  have H := Lib.hid (show ¬ EqP p 1 (fun _ => 1) 1 (fun _ => k) from fun g => h (by
    obtain ⟨a, _, _, _, b⟩ := g
    have := b 0 (by omega)
    exact ⟨a, this.2.2.1, this.2.2.2⟩))
  have st0 := (((St.start w).alloc (.cells #[.int .i64 0, .int .i64 0] 76)).addBox w.heap.size [.int .i64 0, .int .i64 0] (Box.made _ _ _ _ (fun j v h => by simpa using h)))
  replace st0 := (st0.alloc (.cells #[.int .i64 1] 2)).addSl ⟨true, w.heap.size + 1, w.heap.size + 2, .slice (some ⟨w.heap.size + 1, 0, none⟩) 1 1, 1, fun _ => 1⟩ (by simpa using one_made (w.alloc (.cells #[.int .i64 0, .int .i64 0] 76)) 1 (by unfold inR; omega) _ rfl)
  replace st0 := (st0.alloc (.cells #[.int .i64 k] 2)).addSl ⟨true, w.heap.size + 2, w.heap.size + 3, .slice (some ⟨w.heap.size + 1 + 1, 0, none⟩) 1 1, 1, fun _ => k⟩ (by simpa using one_made ((w.alloc (.cells #[.int .i64 0, .int .i64 0] 76)).alloc (.cells #[.int .i64 1] 2)) k hk _ rfl)
  have sA := st0.sl 1 ⟨true, w.heap.size + 1, w.heap.size + 2, .slice (some ⟨w.heap.size + 1, 0, none⟩) 1 1, 1, fun _ => 1⟩ rfl
  have sB := st0.sl 0 ⟨true, w.heap.size + 2, w.heap.size + 3, .slice (some ⟨w.heap.size + 1 + 1, 0, none⟩) 1 1, 1, fun _ => k⟩ rfl
  dsimp only at sA sB
  have SA := Lib.hid sA
  have SB := Lib.hid sB
  clear sA sB
  have ST := Lib.hid st0
  have HG := Lib.hid (hG.keep st0.1)
  clear st0 h hG
  go_enter Tryd.func78, Tryd.ntmps78
  go_wp2_with (go_at_call 59; refine (partsOf_no p _ ad HG.out SA.out SB.out H.out).mono ?_; rintro e w1 ⟨rfl, b1⟩)
  have BB := (ST.out.keep b1).1
  first | exact ⟨rfl, BB⟩ | exact ⟨rfl, rfl, BB⟩

theorem withForm_power0 {o : Bool} {lo hi : Nat} {v : Value} {c : Nat → Int} (p a k : Nat) (hp : 2 ≤ p) (hp2 : p ≤ 61) (ha : a ≤ 61) (hk : k ≤ 60) (w : World) (hs : Sl o w lo hi v p c) (hc : ∀ j, j < p → 0 ≤ c j ∧ c j ≤ 13845841) :
    Calls Tryd.prog 92 #[v, .agg #[.int .i64 (a : Int), .int .i64 (k : Int)], .int .i64 0] w fun r w' => r = .returned (.slice (some ⟨w.heap.size + 1, 0, none⟩) p p) ∧ Sl true w' (w.heap.size + 1) (w.heap.size + 2) (.slice (some ⟨w.heap.size + 1, 0, none⟩) p p) p (wfT p (vN p a k) c 0 p) ∧ Below w.heap.size w w' := by
  have h := withForm_power p a k 0 hp hp2 ha hk (by omega) w hs hc
  rw [show ((0 : Nat) : Int) = 0 from rfl] at h
  exact h
section
variable {n : Nat} {fa fe : Nat → Int}
theorem solutionCounts0 (p g : Nat) (hp : 2 ≤ p) (hp2 : p ≤ 61) (w : World) (hP : Pts w g n fa fe) (hn : n ≤ 4) (h : ∀ i, i < n → 1 ≤ fa i ∧ fa i < (p : Int) ∧ 1 ≤ fe i ∧ fe i ≤ 60) :
    Calls Tryd.prog 61 #[.int .i64 (p : Int), .slice (some ⟨g, 0, none⟩) n n, .int .i64 0] w fun r w' => ∃ G, r = .returned (.slice (some ⟨G, 0, none⟩) p p) ∧ Sl true w' w.heap.size w'.heap.size (.slice (some ⟨G, 0, none⟩) p p) p (solT p fa fe 0 n) ∧ Below w.heap.size w w' := by
  have h := solutionCounts_any p 0 g hp hp2 (by omega) w hP hn h
  rw [show ((0 : Nat) : Int) = 0 from rfl] at h
  exact h
theorem solutionCounts1 (p g : Nat) (hp : 2 ≤ p) (hp2 : p ≤ 61) (w : World) (hP : Pts w g n fa fe) (hn : n ≤ 4) (h : ∀ i, i < n → 1 ≤ fa i ∧ fa i < (p : Int) ∧ 1 ≤ fe i ∧ fe i ≤ 60) :
    Calls Tryd.prog 61 #[.int .i64 (p : Int), .slice (some ⟨g, 0, none⟩) n n, .int .i64 1] w fun r w' => ∃ G, r = .returned (.slice (some ⟨G, 0, none⟩) p p) ∧ Sl true w' w.heap.size w'.heap.size (.slice (some ⟨G, 0, none⟩) p p) p (solT p fa fe 1 n) ∧ Below w.heap.size w w' := by
  have h := solutionCounts_any p 1 g hp hp2 (by omega) w hP hn h
  rw [show ((1 : Nat) : Int) = 1 from rfl] at h
  exact h
end
theorem e0_bd (j : Nat) : 0 ≤ e0Z j ∧ e0Z j ≤ 13845841 := by unfold e0Z; split <;> omega
set_option maxHeartbeats 2000000 in
theorem countsOf_power (p a k : Nat) (hp : 2 ≤ p) (hp2 : p ≤ 61) (ha : a ≤ 61) (hk : k ≤ 60) (w : World) :
    Calls Tryd.prog 77 #[.int .i64 (p : Int), .agg #[.int .i64 (a : Int), .int .i64 (k : Int)]] w fun r w' => ∃ G, r = .returned (.slice (some ⟨G, 0, none⟩) p p) ∧ Sl true w' w.heap.size w'.heap.size (.slice (some ⟨G, 0, none⟩) p p) p (cnT (vN p a k) 0 p) ∧ Below w.heap.size w w' := by
  have bx := Box.made w #[.int .i64 (a : Int), .int .i64 (k : Int)] 76 [.int .i64 (a : Int), .int .i64 (k : Int)] (fun j v h => by simpa using h)
  have bl := (Below.refl w.heap.size w).alloc (Nat.le_refl _) (.cells #[.int .i64 (a : Int), .int .i64 (k : Int)] 76)
  have hz : (w.alloc (.cells #[.int .i64 (a : Int), .int .i64 (k : Int)] 76)).heap.size = w.heap.size + 1 := by simp
  go_enter Tryd.func77, Tryd.ntmps77
  go_wp2
  obtain ⟨W, hW⟩ : ∃ W, w.alloc (.cells #[.int .i64 (a : Int), .int .i64 (k : Int)] 76) = W := ⟨_, rfl⟩
  rw [hW] at bx bl hz ⊢
  clear hW
  have c0 := bx.2.1 0 _ rfl
  have c1 := bx.2.1 1 _ rfl
  go_region_held3 (fun w' => w'.cell? ⟨w.heap.size, 0, none⟩ = some (.int .i64 (a : Int)) ∧ w'.cell? ⟨w.heap.size, 1, none⟩ = some (.int .i64 (k : Int)))
    (first | exact ⟨c0, c1⟩ | exact ⟨d0, d1⟩ | exact ⟨cell_later b2 d0, cell_later b2 d1⟩ | go_keep)
    (first
      | (go_at_call 90; refine (emptySum_any p (by omega) hp2 _).mono ?_; rintro e w1 ⟨rfl, q1, b1, hz1⟩; have bx1 := (bx.keep (Below.refl _ _).drew).keep b1; have d0 := bx1.2.1 0 _ rfl; have d1 := bx1.2.1 1 _ rfl; simp only [World.size_drew, hz] at q1 b1 hz1; have B1 := b1.mono (show w.heap.size ≤ w.heap.size + 1 by omega))
      | (go_at_call 92; refine (withForm_power0 p a k hp hp2 ha hk _ q1 (fun j hj => e0_bd j)).mono ?_; rintro e w2 ⟨rfl, q2, b2⟩))
  go_wp2
  go_ret
  rw [hz1] at q2
  have hs2 := q2.size
  exact ⟨_, rfl, (q2.congr (f' := cnT (vN p a k) 0 p) (fun j hj => (count_eq (fun x hx => vN_lt (by omega) _ _ _) 0 (Nat.le_refl _) hj).symm)).wide (lo' := w.heap.size) (hi' := w2.heap.size) (by omega) hs2 (Nat.le_refl _), (bl.drew.trans B1).trans (b2.mono (by omega))⟩

/-! Polynomials -/
/-- The value at x, as a number. -/
def plV (f : Nat → Int) (n p x : Nat) : Nat := (valN f n (x : Int) (p : Int)).toNat
theorem plV_lt {f : Nat → Int} {n p : Nat} (h : 1 ≤ p) (x : Nat) : plV f n p x < p := by
  have := valN_bd f n (x : Int) (q := (p : Int)) (by omega)
  unfold plV; omega
theorem plV_int {f : Nat → Int} {n p : Nat} (h : 1 ≤ p) (x : Nat) : valN f n (x : Int) (p : Int) = (plV f n p x : Nat) := by
  have := valN_bd f n (x : Int) (q := (p : Int)) (by omega)
  unfold plV; omega
section
variable {o o' : Bool} {lo hi lo' hi' : Nat} {v v' : Value} {n : Nat} {c fp : Nat → Int}
theorem valueAt_poly (p x : Nat) (hp : 2 ≤ p) (hp2 : p ≤ 61) (hx : x < p) (w : World) (hs : Sl o w lo hi v n fp) (h1 : 1 ≤ n) (h2 : n ≤ 8) (hf : Within fp n 1000000000) :
    Calls Tryd.prog 136 #[v, .int .i64 (x : Int), .int .i64 (p : Int)] w fun r w' => r = .returned (.int .i64 (plV fp n p x : Nat)) ∧ Below w.heap.size w w' := by
  have HE := Lib.hid (plV_int (f := fp) (n := n) (p := p) (by omega) x)
  obtain ⟨av, cap, rfl⟩ := hs.shape
  have HS := Lib.hid hs
  have HF := Lib.hid hf
  clear hs hf
  go_enter Tryd.func136, Tryd.ntmps136
  go_wp2_with (go_at_call 137; refine (valueModulo_any _ HS.out HF.out h1 (by omega) x p (by omega) (by omega) hx).mono ?_; rintro e w1 ⟨rfl, b1⟩)
  go_ret
  exact ⟨by rw [HE.out]; rfl, b1⟩
set_option maxHeartbeats 2000000 in
theorem withForm_poly (p : Nat) (hp : 2 ≤ p) (hp2 : p ≤ 61) (w : World) (hs : Sl o w lo hi v p c) (hc : ∀ j, j < p → 0 ≤ c j ∧ c j ≤ 13845841) (ht : Sl o' w lo' hi' v' n fp) (h1 : 1 ≤ n) (h2 : n ≤ 8) (hf : Within fp n 1000000000) :
    Calls Tryd.prog 108 #[v, v', .int .i64 0] w fun r w' => r = .returned (.slice (some ⟨w.heap.size, 0, none⟩) p p) ∧ Sl true w' w.heap.size (w.heap.size + 1) (.slice (some ⟨w.heap.size, 0, none⟩) p p) p (wfT p (plV fp n p) c 0 p) ∧ Below w.heap.size w w' := by
  obtain ⟨av, cap, rfl⟩ := hs.shape
  obtain ⟨av', cap', rfl⟩ := ht.shape
  have hss := hs.size
  have hst' := ht.size
  have HC := Lib.hid hc
  have HF := Lib.hid hf
  have st0 := ((St.start w).addSl ⟨o', lo', hi', .slice av' n cap', n, fp⟩ ht).addSl ⟨o, lo, hi, .slice av p cap, p, c⟩ hs
  have hmk := run_make_row' (P := Tryd.prog) 24 2 (.int .i64 0) 8 Tryd.underlying24 Tryd.info2 rfl .i64 .i64 p (by omega) (by omega)
  have q0 := Sl.made w (madeCells #[.int .i64 0] p) 2 p p (fun _ => 0) (Nat.le_refl _) (by unfold maxLen; omega) (fun j hj => by simp [inR]) (fun j hj => by simp [madeCells_at _ _ _ hj])
  replace st0 := st0.alloc (.cells (madeCells #[.int .i64 0] p) 2)
  have ST := Lib.hid st0
  have Q0 := Lib.hid q0
  clear st0 q0 hs hc ht hf
  go_enter Tryd.func108, Tryd.ntmps108
  go_wp2
  go_loopw [9] (fun s9 wr => ∃ x : Nat, x ≤ p ∧ s9 = .int .i64 (x : Int) ∧ Sl true wr w.heap.size (w.heap.size + 1) (.slice (some ⟨w.heap.size, 0, none⟩) p p) p (wfT p (plV fp n p) c 0 x) ∧ St w wr [] [⟨o, lo, hi, .slice av p cap, p, c⟩, ⟨o', lo', hi', .slice av' n cap', n, fp⟩]) (fun s9 _ => p - (intOf s9).toNat)
  case atStart => exact ⟨0, by omega, rfl, Q0.out.congr (fun j hj => wfT_start), ST.out⟩
  case round =>
    clear Q0 ST
    obtain ⟨x, hx, rfl, hq, hst⟩ := hrel
    have HQ := Lib.hid hq
    have HST := Lib.hid hst
    have hqs := hq.size
    clear hq hst
    by_cases hlt : x < p
    · have hvl := plV_lt (f := fp) (n := n) (p := p) (by omega) x
      have HW := Lib.hid (fun j (hj : j < p) => wfT_bd (p := p) (v := plV fp n p) (c := c) (B := 13845841) (by omega) (fun t ht => HC.out t ht) 0 x j (fun y _ => plV_lt (by omega) _) hj)
      have HN := Lib.hid (fun j => wfT_succ (p := p) (v := plV fp n p) (c := c) (b := j) (Nat.zero_le x))
      go_wp2_with (first
        | (go_at_call 136; refine (valueAt_poly p x hp hp2 hlt _ (HST.out.sl 1 ⟨o', lo', hi', .slice av' n cap', n, fp⟩ rfl) h1 h2 HF.out).mono ?_; rintro e w1 ⟨rfl, b1⟩; have hz1 := b1.size; have q1 := HQ.out.keep b1 hqs; have st1 := HST.out.keep b1; have sl1 : Sl o w1 lo hi (.slice av p cap) p c := st1.sl 0 ⟨o, lo, hi, .slice av p cap, p, c⟩ rfl)
        | (go_at_call 109; refine (addTurned_61 p _ (by omega) hp2 hvl _ q1 sl1 (.inr (by omega)) (fun j hj => by have := HW.out j hj; have : (x : Int) * 13845841 ≤ 61 * 13845841 := Int.mul_le_mul_of_nonneg_right (by omega) (by omega); omega) (fun j hj => by have := HC.out j hj; omega)).mono ?_; rintro e w2 ⟨rfl, q2, fr2⟩))
      have st2 := st1.write fr2 (Nat.le_refl _) (fun b hb => absurd hb List.not_mem_nil) (fun s hs => by
        simp only [List.mem_cons, List.not_mem_nil, or_false] at hs
        rcases hs with rfl | rfl
        · dsimp only; omega
        · dsimp only; omega)
      go_roundw
      case rel => exact ⟨x + 1, by omega, by go_num, q2.congr (fun j hj => HN.out j), st2⟩
      case measure => simp [intOf]; omega
    · obtain rfl : x = p := by omega
      go_wp2
      go_ret
      exact ⟨rfl, HQ.out, HST.out.1⟩
end
set_option maxHeartbeats 2000000 in
theorem countsOf_poly {o : Bool} {lo hi : Nat} {v : Value} {n : Nat} {fp : Nat → Int} (p : Nat) (hp : 2 ≤ p) (hp2 : p ≤ 61) (w : World) (ht : Sl o w lo hi v n fp) (h1 : 1 ≤ n) (h2 : n ≤ 8) (hf : Within fp n 1000000000) :
    Calls Tryd.prog 88 #[.int .i64 (p : Int), v] w fun r w' => ∃ G, r = .returned (.slice (some ⟨G, 0, none⟩) p p) ∧ Sl true w' w.heap.size w'.heap.size (.slice (some ⟨G, 0, none⟩) p p) p (cnT (plV fp n p) 0 p) ∧ Below w.heap.size w w' := by
  obtain ⟨av, cap, rfl⟩ := ht.shape
  have HT := Lib.hid ht
  have HF := Lib.hid hf
  have hts := ht.size
  clear ht hf
  go_enter Tryd.func88, Tryd.ntmps88
  go_wp2_with (first
    | (go_at_call 90; refine (emptySum_any p (by omega) hp2 _).mono ?_; rintro e w1 ⟨rfl, q1, b1, hz1⟩)
    | (go_at_call 108; refine (withForm_poly p hp hp2 _ q1 (fun j hj => e0_bd j) (HT.out.keep b1 hts) h1 h2 HF.out).mono ?_; rintro e w2 ⟨rfl, q2, b2⟩))
  go_ret
  rw [hz1] at q2
  have hs2 := q2.size
  exact ⟨_, rfl, (q2.congr (f' := cnT (plV fp n p) 0 p) (fun j hj => (count_eq (fun x hx => plV_lt (by omega) _) 0 (Nat.le_refl _) hj).symm)).wide (lo' := w.heap.size) (hi' := w2.heap.size) (by omega) hs2 (Nat.le_refl _), b1.trans (b2.mono (by omega))⟩
end Go.Proofs.YtacffobbbcfbcaaDoor
