/- SymbolAt of the program and of the model. -/
import Derived.Test.YthookppmclimkaaDoorPlcI
import Derived.Test.YthookppmclimkaaDoorPlcS
namespace Go.Proofs.YthookppmclimkaaDoor
open Go.RowKit Go.ChangeShapes Go.Shelf
set_option linter.unusedVariables false
set_option linter.unusedSimpArgs false
set_option maxRecDepth 100000
attribute [local go_sem] Oper.semAt_some
theorem powerModulo_below (l x k : Nat) (hl : 2 ≤ l) (hl2 : l ≤ 61) (hx : x < l) (hk : k ≤ 100) (w : World) :
    Calls Tryd.prog 31 #[.int .i64 (x : Int), .int .i64 (k : Int), .int .i64 (l : Int)] w fun r w' => r = .returned (.int .i64 (pwr l x k : Nat)) ∧ Below w.heap.size w w' :=
  (powerModulo_any l x k hl hl2 hx hk w).mono fun _ _ ⟨he, m, hw⟩ => ⟨he, hw ▸ below_drewN (Below.refl _ _) m⟩
section
variable {o : Bool} {lo hi : Nat} {v : Value} {L : Nat} {f : Nat → Int}
theorem SymbolAt_spec_bad (x l r : Int) (w : World) (hs : Sl o w lo hi v L f) (h : ¬ CyP x L f) :
    Calls Tryd.prog 12 #[.agg #[.int .i64 x, v], .int .i64 l, .int .i64 r] w fun e w' => e = .returned (.tuple #[.int .i64 0, .int .i64 1]) ∧ Below w.heap.size w w' := by
  obtain ⟨av, cap, rfl⟩ := hs.shape
  have HC := Lib.hid h
  have st0 := ((((St.start w).addSl ⟨o, lo, hi, .slice av L cap, L, f⟩ hs).alloc (.cells #[.int .i64 x, .slice av L cap] 26)).addBox w.heap.size [.int .i64 x, .slice av L cap] (Box.made _ _ _ _ (fun j v h => by simpa using h)))
  have q0 := st0.sl 0 ⟨o, lo, hi, .slice av L cap, L, f⟩ rfl
  dsimp only at q0
  clear h hs
  go_enter Tryd.func12, Tryd.ntmps12
  go_wp2_with (go_at_call 33; refine (l07Given_bad x l r _ q0 HC.out).mono ?_; rintro e w1 ⟨rfl, b1⟩)
  have BB := (st0.keep b1).1
  go_ret2
  exact ⟨rfl, BB⟩
theorem SymbolAt_spec_out (x l r : Int) (w : World) (hs : Sl o w lo hi v L f) (h : CyP x L f) (hp : ¬ PlP x l r) :
    Calls Tryd.prog 12 #[.agg #[.int .i64 x, v], .int .i64 l, .int .i64 r] w fun e w' => e = .returned (.tuple #[.int .i64 0, .int .i64 2]) ∧ Below w.heap.size w w' := by
  obtain ⟨av, cap, rfl⟩ := hs.shape
  have HC := Lib.hid h
  have st0 := ((((St.start w).addSl ⟨o, lo, hi, .slice av L cap, L, f⟩ hs).alloc (.cells #[.int .i64 x, .slice av L cap] 26)).addBox w.heap.size [.int .i64 x, .slice av L cap] (Box.made _ _ _ _ (fun j v h => by simpa using h)))
  have q0 := st0.sl 0 ⟨o, lo, hi, .slice av L cap, L, f⟩ rfl
  dsimp only at q0
  have HP := Lib.hid hp
  clear hp
  clear h hs
  go_enter Tryd.func12, Tryd.ntmps12
  go_wp2_with (go_at_call 33; refine (l07Given_out x l r _ q0 HC.out HP.out).mono ?_; rintro e w1 ⟨rfl, b1⟩)
  have BB := (st0.keep b1).1
  go_ret2
  exact ⟨rfl, BB⟩
theorem SymbolAt_spec_zero (n l r : Nat) (w : World) (hs : Sl o w lo hi v L f) (h : CyP n L f) (h1 : 1 ≤ n) (h2 : n ≤ 16) (hl : primeN l = true) (hf : fullN l n = true) (hr : r ∈ roots n l) (hz : valN f L r l = 0) :
    Calls Tryd.prog 12 #[.agg #[.int .i64 (n : Int), v], .int .i64 (l : Int), .int .i64 (r : Int)] w fun e w' => e = .returned (.tuple #[.int .i64 0, .int .i64 5]) ∧ Below w.heap.size w w' := by
  have hb := primeN_bd hl
  have hfb := full_bd hl hf
  have hrl := (roots_le hl r hr).1
  have hr1 := (roots_mem.1 hr).1
  have hLn : L = phiN n := h.2.2.1
  have hph := phi_bd n (by omega) h1
  have hL12 : 1 ≤ L ∧ L ≤ 12 := by omega
  have HW := Lib.hid h.2.2.2
  have HL := Lib.hid hl
  have HF := Lib.hid hf
  have HR := Lib.hid hr
  have HZ := Lib.hid hz
  clear hLn hph hl hf hr hfb
  obtain ⟨av, cap, rfl⟩ := hs.shape
  have HC := Lib.hid h
  have st0 := ((((St.start w).addSl ⟨o, lo, hi, .slice av L cap, L, f⟩ hs).alloc (.cells #[.int .i64 (n : Int), .slice av L cap] 26)).addBox w.heap.size [.int .i64 (n : Int), .slice av L cap] (Box.made _ _ _ _ (fun j v h => by simpa using h)))
  have q0 := st0.sl 0 ⟨o, lo, hi, .slice av L cap, L, f⟩ rfl
  dsimp only at q0
  clear h hs hz
  go_enter Tryd.func12, Tryd.ntmps12
  go_wp2_with (first
    | (go_at_call 33; refine (l07Given_ok n l r _ q0 HC.out h1 h2 HL.out HF.out HR.out).mono ?_; rintro e w1 ⟨rfl, b1⟩; have st1 := st0.keep b1; obtain ⟨c10, c11⟩ := (st1.box 0 (w.heap.size, [.int .i64 (n : Int), .slice av L cap]) rfl).cell2; have q1 := st1.sl 0 ⟨o, lo, hi, .slice av L cap, L, f⟩ rfl; dsimp only at q1 c10 c11)
    | (go_at_call 34; refine (l07Value_any _ q1 HW.out (by omega) (by omega) r l (by omega) (by omega) (by omega)).mono ?_; rw [HZ.out]; rintro e w2 ⟨rfl, m2, rfl⟩))
  have BB := (st1.drewN m2).1
  go_ret2
  exact ⟨rfl, BB⟩
theorem SymbolAt_impl_bad (x l r : Int) (w : World) (hs : Sl o w lo hi v L f) (h : ¬ CyP x L f) :
    Calls Tryd.prog 11 #[.agg #[.int .i64 x, v], .int .i64 l, .int .i64 r] w fun e w' => e = .returned (.tuple #[.int .i64 0, .int .i64 1]) ∧ Below w.heap.size w w' := by
  obtain ⟨av, cap, rfl⟩ := hs.shape
  have HC := Lib.hid h
  have st0 := ((((St.start w).addSl ⟨o, lo, hi, .slice av L cap, L, f⟩ hs).alloc (.cells #[.int .i64 x, .slice av L cap] 26)).addBox w.heap.size [.int .i64 x, .slice av L cap] (Box.made _ _ _ _ (fun j v h => by simpa using h)))
  have q0 := st0.sl 0 ⟨o, lo, hi, .slice av L cap, L, f⟩ rfl
  dsimp only at q0
  clear h hs
  go_enter Tryd.func11, Tryd.ntmps11
  go_wp2_with (go_at_call 14; refine (ResidueAt_impl_bad x l r _ q0 HC.out).mono ?_; rintro e w1 ⟨rfl, b1⟩)
  have BB := (st0.keep b1).1
  go_ret2
  exact ⟨rfl, BB⟩
theorem SymbolAt_impl_out (x l r : Int) (w : World) (hs : Sl o w lo hi v L f) (h : CyP x L f) (hp : ¬ PlP x l r) (hG : Gv w) :
    Calls Tryd.prog 11 #[.agg #[.int .i64 x, v], .int .i64 l, .int .i64 r] w fun e w' => e = .returned (.tuple #[.int .i64 0, .int .i64 2]) ∧ Below w.heap.size w w' := by
  obtain ⟨av, cap, rfl⟩ := hs.shape
  have HC := Lib.hid h
  have st0 := ((((St.start w).addSl ⟨o, lo, hi, .slice av L cap, L, f⟩ hs).alloc (.cells #[.int .i64 x, .slice av L cap] 26)).addBox w.heap.size [.int .i64 x, .slice av L cap] (Box.made _ _ _ _ (fun j v h => by simpa using h)))
  have q0 := st0.sl 0 ⟨o, lo, hi, .slice av L cap, L, f⟩ rfl
  dsimp only at q0
  have HP := Lib.hid hp
  clear hp
  clear h hs
  go_enter Tryd.func11, Tryd.ntmps11
  go_wp2_with (go_at_call 14; refine (ResidueAt_impl_out x l r _ q0 HC.out HP.out (hG.keep st0.1)).mono ?_; rintro e w1 ⟨rfl, b1⟩)
  have BB := (st0.keep b1).1
  go_ret2
  exact ⟨rfl, BB⟩
theorem SymbolAt_impl_zero (n l r : Nat) (w : World) (hs : Sl o w lo hi v L f) (h : CyP n L f) (h1 : 1 ≤ n) (h2 : n ≤ 16) (hl : primeN l = true) (hf : fullN l n = true) (hr : r ∈ roots n l) (hz : valN f L r l = 0) :
    Calls Tryd.prog 11 #[.agg #[.int .i64 (n : Int), v], .int .i64 (l : Int), .int .i64 (r : Int)] w fun e w' => e = .returned (.tuple #[.int .i64 0, .int .i64 5]) ∧ Below w.heap.size w w' := by
  have hb := primeN_bd hl
  have hfb := full_bd hl hf
  have hrl := (roots_le hl r hr).1
  have hr1 := (roots_mem.1 hr).1
  have hLn : L = phiN n := h.2.2.1
  have hph := phi_bd n (by omega) h1
  have hL12 : 1 ≤ L ∧ L ≤ 12 := by omega
  have HW := Lib.hid h.2.2.2
  have HL := Lib.hid hl
  have HF := Lib.hid hf
  have HR := Lib.hid hr
  have HZ := Lib.hid hz
  clear hLn hph hl hf hr hfb
  obtain ⟨av, cap, rfl⟩ := hs.shape
  have HC := Lib.hid h
  have st0 := ((((St.start w).addSl ⟨o, lo, hi, .slice av L cap, L, f⟩ hs).alloc (.cells #[.int .i64 (n : Int), .slice av L cap] 26)).addBox w.heap.size [.int .i64 (n : Int), .slice av L cap] (Box.made _ _ _ _ (fun j v h => by simpa using h)))
  have q0 := st0.sl 0 ⟨o, lo, hi, .slice av L cap, L, f⟩ rfl
  dsimp only at q0
  clear h hs hz
  go_enter Tryd.func11, Tryd.ntmps11
  go_wp2_with (go_at_call 14; refine (ResidueAt_impl_ok n l r _ q0 HC.out h1 h2 HL.out HF.out HR.out).mono ?_; rw [HZ.out]; rintro e w1 ⟨rfl, b1⟩)
  have BB := (st0.keep b1).1
  go_ret2
  exact ⟨rfl, BB⟩
set_option maxHeartbeats 2000000 in
theorem SymbolAt_spec_ok (n l r : Nat) (w : World) (hs : Sl o w lo hi v L f) (h : CyP n L f) (h1 : 1 ≤ n) (h2 : n ≤ 16) (hl : primeN l = true) (hf : fullN l n = true) (hr : r ∈ roots n l) (hz : valN f L r l ≠ 0) :
    Calls Tryd.prog 12 #[.agg #[.int .i64 (n : Int), v], .int .i64 (l : Int), .int .i64 (r : Int)] w fun e w' => e = .returned (.tuple #[.int .i64 (symN l n r (valN f L r l).toNat : Nat), .int .i64 0]) ∧ Below w.heap.size w w' := by
  have hb := primeN_bd hl
  have hfb := full_bd hl hf
  have hrl := (roots_le hl r hr).1
  have hr1 := (roots_mem.1 hr).1
  have hLn : L = phiN n := h.2.2.1
  have hph := phi_bd n (by omega) h1
  have hL12 : 1 ≤ L ∧ L ≤ 12 := by omega
  have HW := Lib.hid h.2.2.2
  have HL := Lib.hid hl
  have HF := Lib.hid hf
  have HR := Lib.hid hr
  have hvb := valN_bd f L (r : Int) (q := (l : Int)) (by omega)
  obtain ⟨x, hx⟩ : ∃ x : Nat, valN f L r l = (x : Int) := ⟨(valN f L r l).toNat, by omega⟩
  have hx1 : 1 ≤ x := by omega
  have hx2 : x < l := by omega
  have hsym := symN_ok hl h1 h2 hf hr hx1 hx2
  have HX := Lib.hid hx
  have hq60 : (l - 1) / n ≤ 60 := Nat.le_trans (Nat.div_le_self _ _) (by omega)
  have HQ := Lib.hid (show ((l : Int) - 1) / (n : Int) = (((l - 1) / n : Nat) : Int) by rw [show ((l : Int) - 1) = ((l - 1 : Nat) : Int) by omega, Int.natCast_ediv])
  have hqb : 0 ≤ ((l : Int) - 1) / (n : Int) ∧ ((l : Int) - 1) / (n : Int) ≤ 60 := ⟨Int.ediv_nonneg (by omega) (by omega), Int.le_trans (Int.ediv_le_self _ (by omega)) (by omega)⟩
  have hn0 : ¬ n = 0 := by omega
  have hxb : ((x : Int) == 0) = false := beq_eq_false_iff_ne.2 (by omega)
  rw [show symN l n r (valN f L r l).toNat = symN l n r x by rw [hx, Int.toNat_natCast]]
  generalize symN l n r x = k0 at *
  have HS := Lib.hid hsym
  have hk0 := hsym.1
  have HPER := Lib.hid (rt_per hl h1 h2 hf hr)
  clear hLn hph hl hf hr hfb
  obtain ⟨av, cap, rfl⟩ := hs.shape
  have HC := Lib.hid h
  have st0 := ((((St.start w).addSl ⟨o, lo, hi, .slice av L cap, L, f⟩ hs).alloc (.cells #[.int .i64 (n : Int), .slice av L cap] 26)).addBox w.heap.size [.int .i64 (n : Int), .slice av L cap] (Box.made _ _ _ _ (fun j v h => by simpa using h)))
  have q0 := st0.sl 0 ⟨o, lo, hi, .slice av L cap, L, f⟩ rfl
  dsimp only at q0
  clear h hs hz hx hvb hsym
  go_enter Tryd.func12, Tryd.ntmps12
  go_wp2_with (first
    | (go_at_call 33; refine (l07Given_ok n l r _ q0 HC.out h1 h2 HL.out HF.out HR.out).mono ?_; rintro e w1 ⟨rfl, b1⟩; have st1 := st0.keep b1; obtain ⟨c10, c11⟩ := (st1.box 0 (w.heap.size, [.int .i64 (n : Int), .slice av L cap]) rfl).cell2; have q1 := st1.sl 0 ⟨o, lo, hi, .slice av L cap, L, f⟩ rfl; dsimp only at q1 c10 c11)
    | (go_at_call 34; refine (l07Value_any _ q1 HW.out (by omega) (by omega) r l (by omega) (by omega) (by omega)).mono ?_; rw [HX.out]; rintro e w2 ⟨rfl, m2, rfl⟩; have st2 := st1.drewN m2; obtain ⟨c20, c21⟩ := (st2.box 0 (w.heap.size, [.int .i64 (n : Int), .slice av L cap]) rfl).cell2; dsimp only at c20 c21)
    | (go_at_call 35; rw [HQ.out]; refine (l07Power_any l x ((l - 1) / n) (by omega) (by omega) (by omega) (by omega) _).mono ?_; rintro e w3 ⟨rfl, m3, rfl⟩))
  have BB := (st1.drewN m2).1
  go_loopw [11] (fun s11 wr => ∃ k : Nat, k ≤ k0 ∧ s11 = .int .i64 (k : Int) ∧ Below w.heap.size w wr) (fun s11 _ => k0 - (intOf s11).toNat)
  case atStart => exact ⟨0, by omega, rfl, by first | exact BB | exact below_drewN BB _ | (simpa using below_drewN BB m3)⟩
  case round =>
    obtain ⟨k, hk, rfl, hB⟩ := hrel
    have HB := Lib.hid hB
    clear hB
    by_cases hlt : k < k0
    · have hne : ((pwr l r k : Nat) : Int) ≠ ((pwr l x ((l - 1) / n) : Nat) : Int) := fun e => by
        have := HS.out.2.2 k (by omega) (by omega)
        omega
      have hne2 : (((pwr l r k : Nat) : Int) != ((pwr l x ((l - 1) / n) : Nat) : Int)) = true := by rw [bne_iff_ne]; exact hne
      clear hne
      go_wp2_with (go_at_call 35; refine (l07Power_any l r k (by omega) (by omega) (by omega) (by omega) _).mono ?_; rintro e w4 ⟨rfl, m4, rfl⟩)
      go_roundw
      case rel => exact ⟨k + 1, by omega, by go_num, below_drewN HB.out _⟩
      case measure => simp [intOf] <;> omega
    · obtain rfl : k = k0 := by omega
      have hne2 : (((pwr l r k : Nat) : Int) != ((pwr l x ((l - 1) / n) : Nat) : Int)) = false := by rw [HS.out.2.1]; simp
      go_wp2_with (go_at_call 35; refine (l07Power_any l r k (by omega) (by omega) (by omega) (by omega) _).mono ?_; rintro e w4 ⟨rfl, m4, rfl⟩)
      go_ret2
      exact ⟨rfl, below_drewN HB.out _⟩
set_option maxHeartbeats 4000000 in
theorem SymbolAt_impl_ok (n l r : Nat) (w : World) (hs : Sl o w lo hi v L f) (h : CyP n L f) (h1 : 1 ≤ n) (h2 : n ≤ 16) (hl : primeN l = true) (hf : fullN l n = true) (hr : r ∈ roots n l) (hz : valN f L r l ≠ 0) :
    Calls Tryd.prog 11 #[.agg #[.int .i64 (n : Int), v], .int .i64 (l : Int), .int .i64 (r : Int)] w fun e w' => e = .returned (.tuple #[.int .i64 (symN l n r (valN f L r l).toNat : Nat), .int .i64 0]) ∧ Below w.heap.size w w' := by
  have hb := primeN_bd hl
  have hfb := full_bd hl hf
  have hrl := (roots_le hl r hr).1
  have hr1 := (roots_mem.1 hr).1
  have hLn : L = phiN n := h.2.2.1
  have hph := phi_bd n (by omega) h1
  have hL12 : 1 ≤ L ∧ L ≤ 12 := by omega
  have HW := Lib.hid h.2.2.2
  have HL := Lib.hid hl
  have HF := Lib.hid hf
  have HR := Lib.hid hr
  have hvb := valN_bd f L (r : Int) (q := (l : Int)) (by omega)
  obtain ⟨x, hx⟩ : ∃ x : Nat, valN f L r l = (x : Int) := ⟨(valN f L r l).toNat, by omega⟩
  have hx1 : 1 ≤ x := by omega
  have hx2 : x < l := by omega
  have hsym := symN_ok hl h1 h2 hf hr hx1 hx2
  have HX := Lib.hid hx
  have hq60 : (l - 1) / n ≤ 60 := Nat.le_trans (Nat.div_le_self _ _) (by omega)
  have HQ := Lib.hid (show ((l : Int) - 1) / (n : Int) = (((l - 1) / n : Nat) : Int) by rw [show ((l : Int) - 1) = ((l - 1 : Nat) : Int) by omega, Int.natCast_ediv])
  have hqb : 0 ≤ ((l : Int) - 1) / (n : Int) ∧ ((l : Int) - 1) / (n : Int) ≤ 60 := ⟨Int.ediv_nonneg (by omega) (by omega), Int.le_trans (Int.ediv_le_self _ (by omega)) (by omega)⟩
  have hn0 : ¬ n = 0 := by omega
  have hxb : ((x : Int) == 0) = false := beq_eq_false_iff_ne.2 (by omega)
  rw [show symN l n r (valN f L r l).toNat = symN l n r x by rw [hx, Int.toNat_natCast]]
  generalize symN l n r x = k0 at *
  have HS := Lib.hid hsym
  have hk0 := hsym.1
  have HPER := Lib.hid (rt_per hl h1 h2 hf hr)
  clear hLn hph hl hf hr hfb
  obtain ⟨av, cap, rfl⟩ := hs.shape
  have HC := Lib.hid h
  have st0 := ((((St.start w).addSl ⟨o, lo, hi, .slice av L cap, L, f⟩ hs).alloc (.cells #[.int .i64 (n : Int), .slice av L cap] 26)).addBox w.heap.size [.int .i64 (n : Int), .slice av L cap] (Box.made _ _ _ _ (fun j v h => by simpa using h)))
  have q0 := st0.sl 0 ⟨o, lo, hi, .slice av L cap, L, f⟩ rfl
  dsimp only at q0
  clear h hs hz hx hvb hsym
  refine (callsIn_wide (n := 9)).1 ?_
  have hro : Fence.wide.round = none := rfl
  refine callsIn_of_wp_marks Tryd.func11 rfl trivial ?_ hro
  simp only [Tryd.ntmps11, List.size_toArray, List.length_cons, List.length_nil, Nat.reduceAdd, Nat.reduceSub, Array.replicate_succ, Array.replicate_zero, List.push_toArray, List.append_toArray, List.nil_append, List.cons_append]
  gi_wp2_with (first
    | (refine ⟨trivial, ?_⟩; gi_at_call 14; refine (callsIn_wide.2 (ResidueAt_impl_ok n l r _ q0 HC.out h1 h2 HL.out HF.out HR.out)).mono ?_; rw [HX.out]; rintro e w1 ⟨rfl, b1⟩; have st1 := st0.keep b1; have hz1 := b1.size; simp only [World.size_alloc] at hz1; obtain ⟨c10, c11⟩ := (st1.box 0 (w.heap.size, [.int .i64 (n : Int), .slice av L cap]) rfl).cell2; dsimp only at c10 c11)
    | (refine ⟨trivial, ?_⟩; gi_at_call 31; rw [HQ.out]; refine (callsIn_wide.2 (powerModulo_below l x ((l - 1) / n) (by omega) (by omega) (by omega) (by omega) _)).mono ?_; rintro e w2 ⟨rfl, b2⟩; have st2 := st1.keep b2; have hz2 := b2.size)
    | (refine ⟨trivial, ?_⟩; gi_at_call 32; refine (callsIn_wide.2 (powersModulo_any _ _ _)).mono ?_; rintro e w3 ⟨rfl, rfl⟩))
  have st3 := ((st2.alloc (.cells #[.int .i64 (pwr l x ((l - 1) / n) : Nat)] 2)).addBox w2.heap.size [.int .i64 (pwr l x ((l - 1) / n) : Nat)] (Box.made _ _ _ _ (fun j v h => by simpa using h)))
  replace st3 := (st3.alloc (.cells #[.int .i64 0] 2)).addBox _ [.int .i64 0] (Box.made _ _ _ _ (fun j v h => by simpa using h))
  replace st3 := (st3.alloc (.cells #[.int .i64 (r : Int)] 2)).addBox _ [.int .i64 (r : Int)] (Box.made _ _ _ _ (fun j v h => by simpa using h))
  replace st3 := (st3.alloc (.cells #[.int .i64 (l : Int)] 2)).addBox _ [.int .i64 (l : Int)] (Box.made _ _ _ _ (fun j v h => by simpa using h))
  simp only [World.size_alloc] at st3
  obtain ⟨W0, hW0⟩ : ∃ W0, (((w2.alloc (.cells #[.int .i64 (pwr l x ((l - 1) / n) : Nat)] 2)).alloc (.cells #[.int .i64 0] 2)).alloc (.cells #[.int .i64 (r : Int)] 2)).alloc (.cells #[.int .i64 (l : Int)] 2) = W0 := ⟨_, rfl⟩
  have hsz0 : W0.heap.size = w2.heap.size + 1 + 1 + 1 + 1 := by rw [← hW0]; simp
  rw [hW0] at st3 ⊢
  have bx0 := st3.box 3 (w2.heap.size, [.int .i64 (pwr l x ((l - 1) / n) : Nat)]) rfl
  have bx1 := st3.box 2 (w2.heap.size + 1, [.int .i64 0]) rfl
  have bx2 := st3.box 1 (w2.heap.size + 1 + 1, [.int .i64 (r : Int)]) rfl
  have bx3 := st3.box 0 (w2.heap.size + 1 + 1 + 1, [.int .i64 (l : Int)]) rfl
  dsimp only at bx0 bx1 bx2 bx3
  have hB0 := st3.1
  clear st0 st1 st2 st3 b1 b2 hW0 q0 c10 c11
  refine wpIn_rangeFunc_ownF hro (by omega) (gf := 67) (lb := #[.pointer (some ⟨w2.heap.size + 1 + 1, 0, none⟩), .pointer (some ⟨w2.heap.size + 1 + 1 + 1, 0, none⟩)]) rfl trivial (enters_of Tryd.func67 (by kernel_rfl) rfl)
    (pow_stops l r n HL.out hr1 hrl HPER.out Fence.wide (9 - 1) trivial rfl (by omega) (w2.heap.size + 1 + 1) (w2.heap.size + 1 + 1 + 1) W0 (bx2.2.1 0 _ rfl) (bx3.2.1 0 _ rfl)) (fun h k => h.trans k) (Keeps2.at (by omega) (by omega)) (Below.refl _ _) (fun _ => rfl)
    (fun pre W => (Box W w2.heap.size [.int .i64 (pwr l x ((l - 1) / n) : Nat)] ∧ ∃ s : Nat, Box W (w2.heap.size + 1) [.int .i64 (s : Int)] ∧ (k0 ∈ pre.map Fin.val → s = k0)) ∧ Below w.heap.size w W ∧ W0.heap.size ≤ W.heap.size)
    (fun _ _ _ => False)
    (fun s A B row hs hg hr => by
      obtain ⟨⟨h1, y, h3, h4⟩, h5, h6⟩ := hs
      have hB := grown_below hg hr h6
      exact ⟨⟨h1.keepB hB (by omega), y, h3.keepB hB (by omega), h4⟩, h5.trans (hB.mono (by omega)), Nat.le_trans h6 hg.size⟩)
    (fun _ _ _ _ _ hs _ _ => hs)
    ⟨⟨bx0, 0, bx1, fun h => by cases h⟩, hB0, Nat.le_refl _⟩
    (fun i => { tmps := #[.agg #[.int .i64 (n : Int), .slice av L cap], .int .i64 (l : Int), .int .i64 (r : Int), .pointer (some ⟨w.heap.size, 0, none⟩), undef, undef, .int .i64 0, .int .i64 0, .int .i64 (x : Int), .int .i64 0, .pointer (some ⟨w2.heap.size, 0, none⟩), .pointer (some ⟨w2.heap.size + 1, 0, none⟩), .int .i64 (i.1 : Int), .int .i64 (pwr l r i.1 : Nat), .tuple #[.int .i64 (x : Int), .int .i64 0], .agg #[.int .i64 (n : Int), .slice av L cap], .int .i64 (l : Int), .int .i64 (r : Int), .tuple #[.int .i64 (x : Int), .int .i64 0], .int .i64 (x : Int), .int .i64 0, .int .i64 0, .bool false, undef, .int .i64 (x : Int), .bool false, .int .i64 (x : Int), .int .i64 (l : Int), .int .i64 ((l : Int) - 1), .pointer (some ⟨w.heap.size, 0, none⟩), .int .i64 (n : Int), .int .i64 (((l - 1 : Nat) : Int) / (n : Int)), .int .i64 (l : Int), .int .i64 (pwr l x ((l - 1) / n) : Nat), .int .i64 (r : Int), .int .i64 (l : Int), .func (.func 67) #[] #[.pointer (some ⟨w2.heap.size + 1 + 1, 0, none⟩), .pointer (some ⟨w2.heap.size + 1 + 1 + 1, 0, none⟩)], .int .i64 (i.1 : Int), .int .i64 (pwr l r i.1 : Nat), undef, undef, undef, undef, undef], defers := [] }) ?assign ?body ?done ?stop
  case assign =>
    intro l i W K hK
    gi_wp2
    first | exact hK | simpa [encP] using hK
  case body =>
    rintro l' pre i W ⟨⟨b0, s, b1, hs⟩, hB, hz⟩ hlen
    have c0 := b0.2.1 0 _ rfl
    have c1 := b1.2.1 0 _ rfl
    have f1 := b1.2.2 0
    by_cases hx : pwr l r i.1 = pwr l x ((l - 1) / n)
    · have hxb : (((pwr l r i.1 : Nat) : Int) == ((pwr l x ((l - 1) / n) : Nat) : Int)) = true := by rw [hx]; simp
      have hi := HS.out.2.2 i.1 i.2 hx
      have HI := Lib.hid hi
      clear hx hi hs
      gi_wp2
      exact ⟨KeepsOthers.setCell _ _ _, Keeps2.setCell _ (by show _ ≠ w2.heap.size + 1; omega) (by show _ ≠ w2.heap.size + 1; omega), ⟨b0.other _ _ (by show _ ≠ w2.heap.size + 1; omega), i.1, b1.set1 _, fun _ => HI.out⟩, hB.setCell (p := ⟨w2.heap.size + 1, 0, none⟩) (by simp; omega) _, by simpa using hz⟩
    · have hxb : (((pwr l r i.1 : Nat) : Int) == ((pwr l x ((l - 1) / n) : Nat) : Int)) = false := beq_eq_false_iff_ne.2 (by omega)
      have HX2 := Lib.hid hx
      have HSS := Lib.hid hs
      clear hx hs
      gi_wp2
      exact ⟨KeepsOthers.refl _, Keeps2.refl _ _ _, ⟨b0, s, b1, fun hm => by
        rw [List.map_append] at hm
        rcases List.mem_append.1 hm with h | h
        · exact HSS.out h
        · simp at h
          exact absurd (show pwr l r i.1 = _ by rw [← h]; exact HS.out.2.1) HX2.out⟩, hB, hz⟩
  case done =>
    rintro D ys W hD hys ⟨⟨b0, s, b1, hs⟩, hB, hz⟩ hK
    have c1 := b1.2.1 0 _ rfl
    obtain rfl := hs (by rw [hys]; exact List.mem_range.2 hk0)
    gi_wp2
    refine ⟨by simp, .inl ⟨_, _, rfl, run_takeDeferred hK, ?_⟩⟩
    exact ⟨_, results_tmp2 rfl _ _ _, rfl, hB.trans (belowK_b (w := w) (Nat.le_refl _) W D _ _ (by omega) hK rfl rfl)⟩
  case stop =>
    rintro D c pre W _ _ h _
    exact h.elim
end
end Go.Proofs.YthookppmclimkaaDoor
