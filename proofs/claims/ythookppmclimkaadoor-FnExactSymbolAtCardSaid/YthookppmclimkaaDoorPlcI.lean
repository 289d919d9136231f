/- ResidueAt of the program and of the model. -/
import Derived.Test.YthookppmclimkaaDoorPlcH
namespace Go.Proofs.YthookppmclimkaaDoor
open Go.RowKit Go.ChangeShapes Go.Sort
set_option linter.unusedVariables false
set_option linter.unusedSimpArgs false
set_option maxRecDepth 100000
section
variable {o : Bool} {lo hi : Nat} {v : Value} {L : Nat} {f : Nat → Int}
theorem l07Given_bad (x l r : Int) (w : World) (hs : Sl o w lo hi v L f) (h : ¬ CyP x L f) :
    Calls Tryd.prog 33 #[.agg #[.int .i64 x, v], .int .i64 l, .int .i64 r] w fun e w' => e = .returned (.int .i64 1) ∧ Below w.heap.size w w' := by
  obtain ⟨av, cap, rfl⟩ := hs.shape
  have HC := Lib.hid h
  have st0 := ((((St.start w).addSl ⟨o, lo, hi, .slice av L cap, L, f⟩ hs).alloc (.cells #[.int .i64 x, .slice av L cap] 26)).addBox w.heap.size [.int .i64 x, .slice av L cap] (Box.made _ _ _ _ (fun j v h => by simpa using h)))
  have q0 := st0.sl 0 ⟨o, lo, hi, .slice av L cap, L, f⟩ rfl
  dsimp only at q0
  clear h hs
  go_enter Tryd.func33, Tryd.ntmps33
  go_wp2_with (go_at_call 68; refine (l01Is_no _ _ q0 HC.out).mono ?_; rintro e w1 ⟨rfl, b1⟩)
  have BB := (st0.keep b1).1
  go_ret
  exact ⟨rfl, BB⟩
theorem l07Given_out (x l r : Int) (w : World) (hs : Sl o w lo hi v L f) (h : CyP x L f) (hp : ¬ PlP x l r) :
    Calls Tryd.prog 33 #[.agg #[.int .i64 x, v], .int .i64 l, .int .i64 r] w fun e w' => e = .returned (.int .i64 2) ∧ Below w.heap.size w w' := by
  obtain ⟨av, cap, rfl⟩ := hs.shape
  have HC := Lib.hid h
  have st0 := ((((St.start w).addSl ⟨o, lo, hi, .slice av L cap, L, f⟩ hs).alloc (.cells #[.int .i64 x, .slice av L cap] 26)).addBox w.heap.size [.int .i64 x, .slice av L cap] (Box.made _ _ _ _ (fun j v h => by simpa using h)))
  have q0 := st0.sl 0 ⟨o, lo, hi, .slice av L cap, L, f⟩ rfl
  dsimp only at q0
  have HP := Lib.hid hp
  clear h hs hp
  go_enter Tryd.func33, Tryd.ntmps33
  go_wp2_with (first
    | (go_at_call 68; refine (l01Is_yes _ _ q0 HC.out).mono ?_; rintro e w1 ⟨rfl, b1⟩; have st1 := st0.keep b1; have hz1 := b1.size; simp only [World.size_alloc] at hz1; obtain ⟨c10, c11⟩ := (st1.box 0 (w.heap.size, [.int .i64 x, .slice av L cap]) rfl).cell2)
    | (go_at_call 45; refine (l07Place_no x l r HP.out _).mono ?_; rintro e w2 ⟨rfl, b2⟩))
  have BB := (st1.keep b2).1
  go_ret
  exact ⟨rfl, BB⟩
theorem l07Given_ok (n l r : Nat) (w : World) (hs : Sl o w lo hi v L f) (h : CyP n L f) (h1 : 1 ≤ n) (h2 : n ≤ 16) (hl : primeN l = true) (hf : fullN l n = true) (hr : r ∈ roots n l) :
    Calls Tryd.prog 33 #[.agg #[.int .i64 (n : Int), v], .int .i64 (l : Int), .int .i64 (r : Int)] w fun e w' => e = .returned (.int .i64 0) ∧ Below w.heap.size w w' := by
  obtain ⟨av, cap, rfl⟩ := hs.shape
  have HC := Lib.hid h
  have st0 := ((((St.start w).addSl ⟨o, lo, hi, .slice av L cap, L, f⟩ hs).alloc (.cells #[.int .i64 (n : Int), .slice av L cap] 26)).addBox w.heap.size [.int .i64 (n : Int), .slice av L cap] (Box.made _ _ _ _ (fun j v h => by simpa using h)))
  have q0 := st0.sl 0 ⟨o, lo, hi, .slice av L cap, L, f⟩ rfl
  dsimp only at q0
  have HL := Lib.hid hl
  have HF := Lib.hid hf
  have HR := Lib.hid hr
  clear h hs hl hf hr
  go_enter Tryd.func33, Tryd.ntmps33
  go_wp2_with (first
    | (go_at_call 68; refine (l01Is_yes _ _ q0 HC.out).mono ?_; rintro e w1 ⟨rfl, b1⟩; have st1 := st0.keep b1; have hz1 := b1.size; simp only [World.size_alloc] at hz1; obtain ⟨c10, c11⟩ := (st1.box 0 (w.heap.size, [.int .i64 (n : Int), .slice av L cap]) rfl).cell2)
    | (go_at_call 45; refine (l07Place_yes n l r h1 h2 HL.out HF.out HR.out _).mono ?_; rintro e w2 ⟨rfl, b2⟩))
  have BB := (st1.keep b2).1
  go_ret
  exact ⟨rfl, BB⟩

theorem ResidueAt_spec_bad (x l r : Int) (w : World) (hs : Sl o w lo hi v L f) (h : ¬ CyP x L f) :
    Calls Tryd.prog 21 #[.agg #[.int .i64 x, v], .int .i64 l, .int .i64 r] w fun e w' => e = .returned (.tuple #[.int .i64 0, .int .i64 1]) ∧ Below w.heap.size w w' := by
  obtain ⟨av, cap, rfl⟩ := hs.shape
  have HC := Lib.hid h
  have st0 := ((((St.start w).addSl ⟨o, lo, hi, .slice av L cap, L, f⟩ hs).alloc (.cells #[.int .i64 x, .slice av L cap] 26)).addBox w.heap.size [.int .i64 x, .slice av L cap] (Box.made _ _ _ _ (fun j v h => by simpa using h)))
  have q0 := st0.sl 0 ⟨o, lo, hi, .slice av L cap, L, f⟩ rfl
  dsimp only at q0
  clear h hs
  go_enter Tryd.func21, Tryd.ntmps21
  go_wp2_with (go_at_call 33; refine (l07Given_bad x l r _ q0 HC.out).mono ?_; rintro e w1 ⟨rfl, b1⟩)
  have BB := (st0.keep b1).1
  go_ret2
  exact ⟨rfl, BB⟩
theorem ResidueAt_spec_out (x l r : Int) (w : World) (hs : Sl o w lo hi v L f) (h : CyP x L f) (hp : ¬ PlP x l r) :
    Calls Tryd.prog 21 #[.agg #[.int .i64 x, v], .int .i64 l, .int .i64 r] w fun e w' => e = .returned (.tuple #[.int .i64 0, .int .i64 2]) ∧ Below w.heap.size w w' := by
  obtain ⟨av, cap, rfl⟩ := hs.shape
  have HC := Lib.hid h
  have st0 := ((((St.start w).addSl ⟨o, lo, hi, .slice av L cap, L, f⟩ hs).alloc (.cells #[.int .i64 x, .slice av L cap] 26)).addBox w.heap.size [.int .i64 x, .slice av L cap] (Box.made _ _ _ _ (fun j v h => by simpa using h)))
  have q0 := st0.sl 0 ⟨o, lo, hi, .slice av L cap, L, f⟩ rfl
  dsimp only at q0
  have HP := Lib.hid hp
  clear h hs hp
  go_enter Tryd.func21, Tryd.ntmps21
  go_wp2_with (go_at_call 33; refine (l07Given_out x l r _ q0 HC.out HP.out).mono ?_; rintro e w1 ⟨rfl, b1⟩)
  have BB := (st0.keep b1).1
  go_ret2
  exact ⟨rfl, BB⟩
theorem ResidueAt_spec_ok (n l r : Nat) (w : World) (hs : Sl o w lo hi v L f) (h : CyP n L f) (h1 : 1 ≤ n) (h2 : n ≤ 16) (hl : primeN l = true) (hf : fullN l n = true) (hr : r ∈ roots n l) :
    Calls Tryd.prog 21 #[.agg #[.int .i64 (n : Int), v], .int .i64 (l : Int), .int .i64 (r : Int)] w fun e w' => e = .returned (.tuple #[.int .i64 (valN f L r l), .int .i64 0]) ∧ Below w.heap.size w w' := by
  have hb := primeN_bd hl
  have hrl := (roots_le hl r hr).1
  have hLn : L = phiN n := h.2.2.1
  have hph := phi_bd n (by omega) h1
  have hL12 : 1 ≤ L ∧ L ≤ 12 := by omega
  have HW := Lib.hid h.2.2.2
  have HL := Lib.hid hl
  have HF := Lib.hid hf
  have HR := Lib.hid hr
  clear hLn hph hl hf hr
  obtain ⟨av, cap, rfl⟩ := hs.shape
  have HC := Lib.hid h
  have st0 := ((((St.start w).addSl ⟨o, lo, hi, .slice av L cap, L, f⟩ hs).alloc (.cells #[.int .i64 (n : Int), .slice av L cap] 26)).addBox w.heap.size [.int .i64 (n : Int), .slice av L cap] (Box.made _ _ _ _ (fun j v h => by simpa using h)))
  have q0 := st0.sl 0 ⟨o, lo, hi, .slice av L cap, L, f⟩ rfl
  dsimp only at q0
  clear h hs
  go_enter Tryd.func21, Tryd.ntmps21
  go_wp2_with (first
    | (go_at_call 33; refine (l07Given_ok n l r _ q0 HC.out h1 h2 HL.out HF.out HR.out).mono ?_; rintro e w1 ⟨rfl, b1⟩; have st1 := st0.keep b1; obtain ⟨c10, c11⟩ := (st1.box 0 (w.heap.size, [.int .i64 (n : Int), .slice av L cap]) rfl).cell2; have q1 := st1.sl 0 ⟨o, lo, hi, .slice av L cap, L, f⟩ rfl; dsimp only at q1 c10 c11)
    | (go_at_call 34; refine (l07Value_any _ q1 HW.out (by omega) (by omega) r l (by omega) (by omega) (by omega)).mono ?_; rintro e w2 ⟨rfl, m2, rfl⟩))
  have BB := (st1.drewN m2).1
  go_ret2
  exact ⟨rfl, BB⟩
theorem ResidueAt_impl_bad (x l r : Int) (w : World) (hs : Sl o w lo hi v L f) (h : ¬ CyP x L f) :
    Calls Tryd.prog 14 #[.agg #[.int .i64 x, v], .int .i64 l, .int .i64 r] w fun e w' => e = .returned (.tuple #[.int .i64 0, .int .i64 1]) ∧ Below w.heap.size w w' := by
  obtain ⟨av, cap, rfl⟩ := hs.shape
  have HC := Lib.hid h
  have st0 := ((((St.start w).addSl ⟨o, lo, hi, .slice av L cap, L, f⟩ hs).alloc (.cells #[.int .i64 x, .slice av L cap] 26)).addBox w.heap.size [.int .i64 x, .slice av L cap] (Box.made _ _ _ _ (fun j v h => by simpa using h)))
  have q0 := st0.sl 0 ⟨o, lo, hi, .slice av L cap, L, f⟩ rfl
  dsimp only at q0
  clear h hs
  go_enter Tryd.func14, Tryd.ntmps14
  go_wp2_with (go_at_call 38; refine (IsCyclo_no _ _ q0 HC.out).mono ?_; rintro e w1 ⟨rfl, b1⟩)
  have BB := (st0.keep b1).1
  go_ret2
  exact ⟨rfl, BB⟩
theorem ResidueAt_impl_out (x l r : Int) (w : World) (hs : Sl o w lo hi v L f) (h : CyP x L f) (hp : ¬ PlP x l r) (hG : Gv w) :
    Calls Tryd.prog 14 #[.agg #[.int .i64 x, v], .int .i64 l, .int .i64 r] w fun e w' => e = .returned (.tuple #[.int .i64 0, .int .i64 2]) ∧ Below w.heap.size w w' := by
  obtain ⟨av, cap, rfl⟩ := hs.shape
  have HC := Lib.hid h
  have st0 := ((((St.start w).addSl ⟨o, lo, hi, .slice av L cap, L, f⟩ hs).alloc (.cells #[.int .i64 x, .slice av L cap] 26)).addBox w.heap.size [.int .i64 x, .slice av L cap] (Box.made _ _ _ _ (fun j v h => by simpa using h)))
  have q0 := st0.sl 0 ⟨o, lo, hi, .slice av L cap, L, f⟩ rfl
  dsimp only at q0
  have HP := Lib.hid hp
  clear h hs hp
  go_enter Tryd.func14, Tryd.ntmps14
  go_wp2_with (first
    | (go_at_call 38; refine (IsCyclo_yes _ _ q0 HC.out).mono ?_; rintro e w1 ⟨rfl, b1⟩; have st1 := st0.keep b1; have hz1 := b1.size; simp only [World.size_alloc] at hz1; obtain ⟨c10, c11⟩ := (st1.box 0 (w.heap.size, [.int .i64 x, .slice av L cap]) rfl).cell2)
    | (go_at_call 39; refine (openPlace_out x l r HP.out _ (hG.keep st1.1)).mono ?_; rintro e w2 ⟨rfl, b2⟩))
  have BB := (st1.keep b2).1
  go_ret2
  exact ⟨rfl, BB.alloc BB.size _⟩
set_option maxHeartbeats 1000000 in
theorem ResidueAt_impl_ok (n l r : Nat) (w : World) (hs : Sl o w lo hi v L f) (h : CyP n L f) (h1 : 1 ≤ n) (h2 : n ≤ 16) (hl : primeN l = true) (hf : fullN l n = true) (hr : r ∈ roots n l) :
    Calls Tryd.prog 14 #[.agg #[.int .i64 (n : Int), v], .int .i64 (l : Int), .int .i64 (r : Int)] w fun e w' => e = .returned (.tuple #[.int .i64 (valN f L r l), .int .i64 0]) ∧ Below w.heap.size w w' := by
  have hb := primeN_bd hl
  have hrl := (roots_le hl r hr).1
  have hLn : L = phiN n := h.2.2.1
  have hph := phi_bd n (by omega) h1
  have hL12 : 1 ≤ L ∧ L ≤ 12 := by omega
  have HW := Lib.hid h.2.2.2
  have HL := Lib.hid hl
  have HF := Lib.hid hf
  have HR := Lib.hid hr
  clear hLn hph hl hf hr
  obtain ⟨av, cap, rfl⟩ := hs.shape
  have HC := Lib.hid h
  have st0 := ((((St.start w).addSl ⟨o, lo, hi, .slice av L cap, L, f⟩ hs).alloc (.cells #[.int .i64 (n : Int), .slice av L cap] 26)).addBox w.heap.size [.int .i64 (n : Int), .slice av L cap] (Box.made _ _ _ _ (fun j v h => by simpa using h)))
  have q0 := st0.sl 0 ⟨o, lo, hi, .slice av L cap, L, f⟩ rfl
  dsimp only at q0
  clear h hs
  go_enter Tryd.func14, Tryd.ntmps14
  go_wp2_with (first
    | (go_at_call 38; refine (IsCyclo_yes _ _ q0 HC.out).mono ?_; rintro e w1 ⟨rfl, b1⟩; have st1 := st0.keep b1; have hz1 := b1.size; simp only [World.size_alloc] at hz1; obtain ⟨c10, c11⟩ := (st1.box 0 (w.heap.size, [.int .i64 (n : Int), .slice av L cap]) rfl).cell2)
    | (go_at_call 39; refine (openPlace_ok n l r h1 h2 HL.out HF.out HR.out _).mono ?_; rintro e w2 ⟨rfl, b2⟩; have st2 := ((st1.keep b2).alloc (.cells #[.int .i64 (n : Int), .int .i64 (l : Int), .int .i64 (r : Int)] 57)).addBox w2.heap.size [.int .i64 (n : Int), .int .i64 (l : Int), .int .i64 (r : Int)] (Box.made _ _ _ _ (fun j v h => by simpa using h)); obtain ⟨c20, c21⟩ := (st2.box 1 (w.heap.size, [.int .i64 (n : Int), .slice av L cap]) rfl).cell2; have q2 := st2.sl 0 ⟨o, lo, hi, .slice av L cap, L, f⟩ rfl; have d1 := (st2.box 0 (w2.heap.size, [.int .i64 (n : Int), .int .i64 (l : Int), .int .i64 (r : Int)]) rfl).2.1 1 _ rfl; have d2 := (st2.box 0 (w2.heap.size, [.int .i64 (n : Int), .int .i64 (l : Int), .int .i64 (r : Int)]) rfl).2.1 2 _ rfl; dsimp only at c20 c21 q2 d1 d2)
    | (go_at_call 40; refine (valueModulo_any _ q2 HW.out (by omega) (by omega) r l (by omega) (by omega) (by omega)).mono ?_; rintro e w3 ⟨rfl, b3⟩))
  have BB := (st2.keep b3).1
  go_ret2
  exact ⟨rfl, BB⟩
end
end Go.Proofs.YthookppmclimkaaDoor
