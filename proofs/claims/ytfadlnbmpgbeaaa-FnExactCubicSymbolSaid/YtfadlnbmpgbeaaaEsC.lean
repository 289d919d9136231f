/- Quotients and rests of the program. -/
import Derived.Test.YtfadlnbmpgbeaaaEsB
import Derived.Deep.DeepCutAuto
import Derived.Deep.CutRange
import Derived.Lib.SmallJoins
namespace Go.Proofs.Ytfadlnbmpgbeaaa
open Go.RowKit Go.ChangeShapes Go.Sort
set_option linter.unusedVariables false
set_option linter.unusedSimpArgs false
set_option maxRecDepth 100000

theorem cell_al {w : World} {p : Addr} {v : Value} (h : w.cell? p = some v) (o : Obj) : (w.alloc o).cell? p = some v :=
  (World.cell?_of_block (w := w) (Below.heap_alloc _ _ _ (World.block_lt_of_cell? _ _ h))).trans h
theorem cell_ald {w : World} {p : Addr} {v : Value} (h : w.cell? p = some v) (o : Obj) : (w.alloc o).drew.cell? p = some v := cell_al h o
theorem cell_st2 {w : World} {b i B : Nat} {x u v : Value} (h : w.cell? ⟨b, i, none⟩ = some x) (hb : b ≠ B) : ((w.setCell ⟨B, 0, none⟩ u).setCell ⟨B, 1, none⟩ v).cell? ⟨b, i, none⟩ = some x := by
  rw [World.cell?_setCell_other _ _ _ _ (fun e => hb (by injection e with e1 _ _; exact e1.symm)), World.cell?_setCell_other _ _ _ _ (fun e => hb (by injection e with e1 _ _; exact e1.symm))]
  exact h


theorem St.swp {W w : World} {bs : List (Nat × List Value)} {ss : List SlF} {b1 b2 : Nat × List Value} (h : St W w (b1 :: b2 :: bs) ss) : St W w (b2 :: b1 :: bs) ss :=
  ⟨h.1, fun x hx => h.2.1 x (by simp only [List.mem_cons] at hx ⊢; rcases hx with h1 | h1 | h1 <;> simp [h1]), h.2.2⟩
theorem St.setHead {W w : World} {bs : List (Nat × List Value)} {ss : List SlF} {b : Nat} {v0 v1 u0 u1 : Value} (h : St W w ((b, [v0, v1]) :: bs) ss) (hb : W.heap.size ≤ b) (hbs : ∀ x ∈ bs, x.1 < b ∨ b + 1 ≤ x.1) (hss : ∀ s ∈ ss, s.hi ≤ b ∨ b + 1 ≤ s.lo) :
    St W ((w.setCell ⟨b, 0, none⟩ u0).setCell ⟨b, 1, none⟩ u1) ((b, [u0, u1]) :: bs) ss := by
  have hf : Frame b (b + 1) w ((w.setCell ⟨b, 0, none⟩ u0).setCell ⟨b, 1, none⟩ u1) := ((Frame.refl b (b + 1) w).setCell (Nat.le_refl _) (Nat.lt_succ_self _) _).setCell (Nat.le_refl _) (Nat.lt_succ_self _) _
  have h1 : St W w bs ss := ⟨h.1, fun x hx => h.2.1 x (List.mem_cons_of_mem _ hx), h.2.2⟩
  have hx := h.2.1 _ List.mem_cons_self
  dsimp only at hx
  refine (h1.write hf hb hbs hss).addBox b [u0, u1] ⟨by simpa [World.setCell] using hx.1, fun j v hv => ?_, fun k => ?_⟩
  · have e0 := World.cell?_setCell_same w ⟨b, 0, none⟩ u0 (hx.2.1 0 _ rfl)
    have e1 : (w.setCell ⟨b, 0, none⟩ u0).cell? ⟨b, 1, none⟩ = some v1 := (setCell_ne _ _ _ _ _ (by omega)).trans (hx.2.1 1 _ rfl)
    match j, hv with
    | 0, hv => cases hv; exact (setCell_ne _ _ _ _ _ (by omega)).trans e0
    | 1, hv => cases hv; exact World.cell?_setCell_same _ _ _ e1
    | j + 2, hv => simp at hv
  · exact ((World.frozen?_setCell _ _ _ _).trans (World.frozen?_setCell _ _ _ _)).trans (hx.2.2 k)

set_option maxHeartbeats 2000000 in
theorem quotient_impl (a b c d : Int) (w : World) (ha : -2000000000 ≤ a) (ha' : a ≤ 2000000000) (hb : -2000000000 ≤ b) (hb' : b ≤ 2000000000) (hc : -20000 ≤ c) (hc' : c ≤ 20000) (hd : -20000 ≤ d) (hd' : d ≤ 20000) (hn : 1 ≤ nrm c d) :
    Calls Try.prog 70 #[.agg #[.int .i64 a, .int .i64 b], .agg #[.int .i64 c, .int .i64 d]] w fun e w' => e = .returned (.agg #[.int .i64 (qA a b c d), .int .i64 (qB a b c d)]) ∧ Below w.heap.size w w' := by
  have u1 := mul_bd ha ha' (show -40000 ≤ c - d by omega) (show c - d ≤ 40000 by omega)
  have u2 := mul_bd hb hb' (show -40000 ≤ -d by omega) (show -d ≤ 40000 by omega)
  have u3 := mul_bd ha ha' (show -40000 ≤ -d by omega) (show -d ≤ 40000 by omega)
  have u4 := mul_bd hb hb' (show -40000 ≤ c - d by omega) (show c - d ≤ 40000 by omega)
  have hA : -300000000000000 ≤ tA a b (c - d) (-d) ∧ tA a b (c - d) (-d) ≤ 300000000000000 := by unfold tA; omega
  have hB : -300000000000000 ≤ tB a b (c - d) (-d) ∧ tB a b (c - d) (-d) ≤ 300000000000000 := by unfold tB; omega
  have hN := nrm_le hc hc' hd hd'
  clear u1 u2 u3 u4
  obtain ⟨u, hu⟩ : ∃ u, tA a b (c - d) (-d) = u := ⟨_, rfl⟩
  obtain ⟨v, hv⟩ : ∃ v, tB a b (c - d) (-d) = v := ⟨_, rfl⟩
  obtain ⟨N, hN0⟩ : ∃ N, nrm c d = N := ⟨_, rfl⟩
  rw [hu] at hA
  rw [hv] at hB
  rw [hN0] at hn hN
  have QA := Lib.hid (show qA a b c d = (2 * u + N) / (2 * N) by unfold qA; rw [hu, hN0])
  have QB := Lib.hid (show qB a b c d = (2 * v + N) / (2 * N) by unfold qB; rw [hv, hN0])
  have TM := Lib.hid (show ∀ w' : World, Calls Try.prog 94 #[.agg #[.int .i64 a, .int .i64 b], .agg #[.int .i64 (c - d), .int .i64 (-d)]] w' fun e w'' => e = .returned (.agg #[.int .i64 u, .int .i64 v]) ∧ Below w'.heap.size w' w'' from fun w' => by
    have h := times_impl a b (c - d) (-d) w' (by omega) (by omega) (by omega) (by omega) (by omega) (by omega) (by omega) (by omega)
    rw [hu, hv] at h
    exact h)
  have NM := Lib.hid (show ∀ w' : World, Calls Try.prog 58 #[.agg #[.int .i64 c, .int .i64 d]] w' fun e w'' => e = .returned (.int .i64 N) ∧ Below w'.heap.size w' w'' from fun w' => by
    have h := norm_impl c d w' (by omega) (by omega) (by omega) (by omega)
    rw [hN0] at h
    exact h)
  have CM := Lib.hid (show ∀ w' : World, Calls Try.prog 95 #[.agg #[.int .i64 c, .int .i64 d]] w' fun e w'' => e = .returned (.agg #[.int .i64 (c - d), .int .i64 (-d)]) ∧ Below w'.heap.size w' w'' from fun w' => conjugate_impl c d w' (by omega) (by omega) (by omega) (by omega))
  clear hu hv hN0
  have st := St.start w
  replace st := (st.alloc (.cells #[.int .i64 a, .int .i64 b] 59)).addBox _ [.int .i64 a, .int .i64 b] (Box.made _ _ _ _ (fun j v h => by simpa using h))
  replace st := (st.alloc (.cells #[.int .i64 c, .int .i64 d] 59)).addBox _ [.int .i64 c, .int .i64 d] (Box.made _ _ _ _ (fun j v h => by simpa using h))
  replace st := (st.alloc (.cells #[.int .i64 0, .int .i64 0] 59)).addBox _ [.int .i64 0, .int .i64 0] (Box.made _ _ _ _ (fun j v h => by simpa using h))
  simp only [World.size_alloc] at st
  go_enter Try.func70, Try.ntmps70
  go_wp2_with fail
  go_cut [5, 6] (fun s5 s6 wx => ∃ nbk, s5 = .pointer (some ⟨nbk, 0, none⟩) ∧ s6 = .int .i64 N ∧ w.heap.size + 1 + 1 < nbk ∧ St w wx [(nbk, [.int .i64 u, .int .i64 v]), (w.heap.size + 1 + 1, [.int .i64 0, .int .i64 0]), (w.heap.size + 1, [.int .i64 c, .int .i64 d]), (w.heap.size, [.int .i64 a, .int .i64 b])] [])
  case first =>
    generalize ((w.alloc _).alloc _).alloc _ = W0 at st ⊢
    have hbx := st.box 0 (w.heap.size + 1 + 1, [.int .i64 0, .int .i64 0]) rfl; obtain ⟨r0, r1⟩ := hbx.cell2; have rz := hbx.2.2; have rs := hbx.1; (try dsimp only at r0 r1 rz rs); clear hbx; have hbx := st.box 1 (w.heap.size + 1, [.int .i64 c, .int .i64 d]) rfl; obtain ⟨y0, y1⟩ := hbx.cell2; have yz := hbx.2.2; have ys := hbx.1; (try dsimp only at y0 y1 yz ys); clear hbx; have hbx := st.box 2 (w.heap.size, [.int .i64 a, .int .i64 b]) rfl; obtain ⟨x0, x1⟩ := hbx.cell2; have xz := hbx.2.2; have xs := hbx.1; (try dsimp only at x0 x1 xz xs); clear hbx
    go_region_held3 (fun w' => w'.cell? ⟨w.heap.size + 1, 0, none⟩ = some (.int .i64 c) ∧ w'.cell? ⟨w.heap.size + 1, 1, none⟩ = some (.int .i64 d) ∧ w'.cell? ⟨w.heap.size, 0, none⟩ = some (.int .i64 a) ∧ w'.cell? ⟨w.heap.size, 1, none⟩ = some (.int .i64 b))
    (first | exact ⟨y0, y1, x0, x1⟩ | exact ⟨cell_al y0 _, cell_al y1 _, cell_al x0 _, cell_al x1 _⟩ | exact ⟨cell_ald y0 _, cell_ald y1 _, cell_ald x0 _, cell_ald x1 _⟩ | exact ⟨cell_st2 y0 (by omega), cell_st2 y1 (by omega), cell_st2 x0 (by omega), cell_st2 x1 (by omega)⟩ | go_keep)
    (first
      | (go_at_call 95; refine (CM.out _).mono ?_; rintro e wq0 ⟨rfl, bq0⟩; (first | (have _g := nb0; replace st := st.keep bq0; have hbx := st.box 0 _ rfl; obtain ⟨nb0, nb1⟩ := hbx.cell2; have nbz := hbx.2.2; have nbs := hbx.1; (try dsimp only at nb0 nb1 nbz nbs); clear hbx; have hbx := st.box 1 (w.heap.size + 1 + 1, [.int .i64 0, .int .i64 0]) rfl; obtain ⟨r0, r1⟩ := hbx.cell2; have rz := hbx.2.2; have rs := hbx.1; (try dsimp only at r0 r1 rz rs); clear hbx; have hbx := st.box 2 (w.heap.size + 1, [.int .i64 c, .int .i64 d]) rfl; obtain ⟨y0, y1⟩ := hbx.cell2; have yz := hbx.2.2; have ys := hbx.1; (try dsimp only at y0 y1 yz ys); clear hbx; have hbx := st.box 3 (w.heap.size, [.int .i64 a, .int .i64 b]) rfl; obtain ⟨x0, x1⟩ := hbx.cell2; have xz := hbx.2.2; have xs := hbx.1; (try dsimp only at x0 x1 xz xs); clear hbx) | (have _g := nb0; replace st := st.drew.keep bq0; have hbx := st.box 0 _ rfl; obtain ⟨nb0, nb1⟩ := hbx.cell2; have nbz := hbx.2.2; have nbs := hbx.1; (try dsimp only at nb0 nb1 nbz nbs); clear hbx; have hbx := st.box 1 (w.heap.size + 1 + 1, [.int .i64 0, .int .i64 0]) rfl; obtain ⟨r0, r1⟩ := hbx.cell2; have rz := hbx.2.2; have rs := hbx.1; (try dsimp only at r0 r1 rz rs); clear hbx; have hbx := st.box 2 (w.heap.size + 1, [.int .i64 c, .int .i64 d]) rfl; obtain ⟨y0, y1⟩ := hbx.cell2; have yz := hbx.2.2; have ys := hbx.1; (try dsimp only at y0 y1 yz ys); clear hbx; have hbx := st.box 3 (w.heap.size, [.int .i64 a, .int .i64 b]) rfl; obtain ⟨x0, x1⟩ := hbx.cell2; have xz := hbx.2.2; have xs := hbx.1; (try dsimp only at x0 x1 xz xs); clear hbx) | (replace st := st.keep bq0; have hbx := st.box 0 (w.heap.size + 1 + 1, [.int .i64 0, .int .i64 0]) rfl; obtain ⟨r0, r1⟩ := hbx.cell2; have rz := hbx.2.2; have rs := hbx.1; (try dsimp only at r0 r1 rz rs); clear hbx; have hbx := st.box 1 (w.heap.size + 1, [.int .i64 c, .int .i64 d]) rfl; obtain ⟨y0, y1⟩ := hbx.cell2; have yz := hbx.2.2; have ys := hbx.1; (try dsimp only at y0 y1 yz ys); clear hbx; have hbx := st.box 2 (w.heap.size, [.int .i64 a, .int .i64 b]) rfl; obtain ⟨x0, x1⟩ := hbx.cell2; have xz := hbx.2.2; have xs := hbx.1; (try dsimp only at x0 x1 xz xs); clear hbx) | (replace st := st.drew.keep bq0; have hbx := st.box 0 (w.heap.size + 1 + 1, [.int .i64 0, .int .i64 0]) rfl; obtain ⟨r0, r1⟩ := hbx.cell2; have rz := hbx.2.2; have rs := hbx.1; (try dsimp only at r0 r1 rz rs); clear hbx; have hbx := st.box 1 (w.heap.size + 1, [.int .i64 c, .int .i64 d]) rfl; obtain ⟨y0, y1⟩ := hbx.cell2; have yz := hbx.2.2; have ys := hbx.1; (try dsimp only at y0 y1 yz ys); clear hbx; have hbx := st.box 2 (w.heap.size, [.int .i64 a, .int .i64 b]) rfl; obtain ⟨x0, x1⟩ := hbx.cell2; have xz := hbx.2.2; have xs := hbx.1; (try dsimp only at x0 x1 xz xs); clear hbx) | (have ro := rs; have yo := ys; have xo := xs; replace st := ((st.alloc (.cells #[.int .i64 0, .int .i64 0] 59)).addBox _ [.int .i64 0, .int .i64 0] (Box.made _ _ _ _ (fun j v h => by simpa using h))).keep bq0; have hbx := st.box 0 _ rfl; obtain ⟨nb0, nb1⟩ := hbx.cell2; have nbz := hbx.2.2; have nbs := hbx.1; (try dsimp only at nb0 nb1 nbz nbs); clear hbx; have hbx := st.box 1 (w.heap.size + 1 + 1, [.int .i64 0, .int .i64 0]) rfl; obtain ⟨r0, r1⟩ := hbx.cell2; have rz := hbx.2.2; have rs := hbx.1; (try dsimp only at r0 r1 rz rs); clear hbx; have hbx := st.box 2 (w.heap.size + 1, [.int .i64 c, .int .i64 d]) rfl; obtain ⟨y0, y1⟩ := hbx.cell2; have yz := hbx.2.2; have ys := hbx.1; (try dsimp only at y0 y1 yz ys); clear hbx; have hbx := st.box 3 (w.heap.size, [.int .i64 a, .int .i64 b]) rfl; obtain ⟨x0, x1⟩ := hbx.cell2; have xz := hbx.2.2; have xs := hbx.1; (try dsimp only at x0 x1 xz xs); clear hbx) | (have ro := rs; have yo := ys; have xo := xs; replace st := ((st.alloc (.cells #[.int .i64 0, .int .i64 0] 59)).addBox _ [.int .i64 0, .int .i64 0] (Box.made _ _ _ _ (fun j v h => by simpa using h))).drew.keep bq0; have hbx := st.box 0 _ rfl; obtain ⟨nb0, nb1⟩ := hbx.cell2; have nbz := hbx.2.2; have nbs := hbx.1; (try dsimp only at nb0 nb1 nbz nbs); clear hbx; have hbx := st.box 1 (w.heap.size + 1 + 1, [.int .i64 0, .int .i64 0]) rfl; obtain ⟨r0, r1⟩ := hbx.cell2; have rz := hbx.2.2; have rs := hbx.1; (try dsimp only at r0 r1 rz rs); clear hbx; have hbx := st.box 2 (w.heap.size + 1, [.int .i64 c, .int .i64 d]) rfl; obtain ⟨y0, y1⟩ := hbx.cell2; have yz := hbx.2.2; have ys := hbx.1; (try dsimp only at y0 y1 yz ys); clear hbx; have hbx := st.box 3 (w.heap.size, [.int .i64 a, .int .i64 b]) rfl; obtain ⟨x0, x1⟩ := hbx.cell2; have xz := hbx.2.2; have xs := hbx.1; (try dsimp only at x0 x1 xz xs); clear hbx)))
      | (go_at_call 94; refine (TM.out _).mono ?_; rintro e wq1 ⟨rfl, bq1⟩; (first | (have _g := nb0; replace st := st.keep bq1; have hbx := st.box 0 _ rfl; obtain ⟨nb0, nb1⟩ := hbx.cell2; have nbz := hbx.2.2; have nbs := hbx.1; (try dsimp only at nb0 nb1 nbz nbs); clear hbx; have hbx := st.box 1 (w.heap.size + 1 + 1, [.int .i64 0, .int .i64 0]) rfl; obtain ⟨r0, r1⟩ := hbx.cell2; have rz := hbx.2.2; have rs := hbx.1; (try dsimp only at r0 r1 rz rs); clear hbx; have hbx := st.box 2 (w.heap.size + 1, [.int .i64 c, .int .i64 d]) rfl; obtain ⟨y0, y1⟩ := hbx.cell2; have yz := hbx.2.2; have ys := hbx.1; (try dsimp only at y0 y1 yz ys); clear hbx; have hbx := st.box 3 (w.heap.size, [.int .i64 a, .int .i64 b]) rfl; obtain ⟨x0, x1⟩ := hbx.cell2; have xz := hbx.2.2; have xs := hbx.1; (try dsimp only at x0 x1 xz xs); clear hbx) | (have _g := nb0; replace st := st.drew.keep bq1; have hbx := st.box 0 _ rfl; obtain ⟨nb0, nb1⟩ := hbx.cell2; have nbz := hbx.2.2; have nbs := hbx.1; (try dsimp only at nb0 nb1 nbz nbs); clear hbx; have hbx := st.box 1 (w.heap.size + 1 + 1, [.int .i64 0, .int .i64 0]) rfl; obtain ⟨r0, r1⟩ := hbx.cell2; have rz := hbx.2.2; have rs := hbx.1; (try dsimp only at r0 r1 rz rs); clear hbx; have hbx := st.box 2 (w.heap.size + 1, [.int .i64 c, .int .i64 d]) rfl; obtain ⟨y0, y1⟩ := hbx.cell2; have yz := hbx.2.2; have ys := hbx.1; (try dsimp only at y0 y1 yz ys); clear hbx; have hbx := st.box 3 (w.heap.size, [.int .i64 a, .int .i64 b]) rfl; obtain ⟨x0, x1⟩ := hbx.cell2; have xz := hbx.2.2; have xs := hbx.1; (try dsimp only at x0 x1 xz xs); clear hbx) | (replace st := st.keep bq1; have hbx := st.box 0 (w.heap.size + 1 + 1, [.int .i64 0, .int .i64 0]) rfl; obtain ⟨r0, r1⟩ := hbx.cell2; have rz := hbx.2.2; have rs := hbx.1; (try dsimp only at r0 r1 rz rs); clear hbx; have hbx := st.box 1 (w.heap.size + 1, [.int .i64 c, .int .i64 d]) rfl; obtain ⟨y0, y1⟩ := hbx.cell2; have yz := hbx.2.2; have ys := hbx.1; (try dsimp only at y0 y1 yz ys); clear hbx; have hbx := st.box 2 (w.heap.size, [.int .i64 a, .int .i64 b]) rfl; obtain ⟨x0, x1⟩ := hbx.cell2; have xz := hbx.2.2; have xs := hbx.1; (try dsimp only at x0 x1 xz xs); clear hbx) | (replace st := st.drew.keep bq1; have hbx := st.box 0 (w.heap.size + 1 + 1, [.int .i64 0, .int .i64 0]) rfl; obtain ⟨r0, r1⟩ := hbx.cell2; have rz := hbx.2.2; have rs := hbx.1; (try dsimp only at r0 r1 rz rs); clear hbx; have hbx := st.box 1 (w.heap.size + 1, [.int .i64 c, .int .i64 d]) rfl; obtain ⟨y0, y1⟩ := hbx.cell2; have yz := hbx.2.2; have ys := hbx.1; (try dsimp only at y0 y1 yz ys); clear hbx; have hbx := st.box 2 (w.heap.size, [.int .i64 a, .int .i64 b]) rfl; obtain ⟨x0, x1⟩ := hbx.cell2; have xz := hbx.2.2; have xs := hbx.1; (try dsimp only at x0 x1 xz xs); clear hbx) | (have ro := rs; have yo := ys; have xo := xs; replace st := ((st.alloc (.cells #[.int .i64 0, .int .i64 0] 59)).addBox _ [.int .i64 0, .int .i64 0] (Box.made _ _ _ _ (fun j v h => by simpa using h))).keep bq1; have hbx := st.box 0 _ rfl; obtain ⟨nb0, nb1⟩ := hbx.cell2; have nbz := hbx.2.2; have nbs := hbx.1; (try dsimp only at nb0 nb1 nbz nbs); clear hbx; have hbx := st.box 1 (w.heap.size + 1 + 1, [.int .i64 0, .int .i64 0]) rfl; obtain ⟨r0, r1⟩ := hbx.cell2; have rz := hbx.2.2; have rs := hbx.1; (try dsimp only at r0 r1 rz rs); clear hbx; have hbx := st.box 2 (w.heap.size + 1, [.int .i64 c, .int .i64 d]) rfl; obtain ⟨y0, y1⟩ := hbx.cell2; have yz := hbx.2.2; have ys := hbx.1; (try dsimp only at y0 y1 yz ys); clear hbx; have hbx := st.box 3 (w.heap.size, [.int .i64 a, .int .i64 b]) rfl; obtain ⟨x0, x1⟩ := hbx.cell2; have xz := hbx.2.2; have xs := hbx.1; (try dsimp only at x0 x1 xz xs); clear hbx) | (have ro := rs; have yo := ys; have xo := xs; replace st := ((st.alloc (.cells #[.int .i64 0, .int .i64 0] 59)).addBox _ [.int .i64 0, .int .i64 0] (Box.made _ _ _ _ (fun j v h => by simpa using h))).drew.keep bq1; have hbx := st.box 0 _ rfl; obtain ⟨nb0, nb1⟩ := hbx.cell2; have nbz := hbx.2.2; have nbs := hbx.1; (try dsimp only at nb0 nb1 nbz nbs); clear hbx; have hbx := st.box 1 (w.heap.size + 1 + 1, [.int .i64 0, .int .i64 0]) rfl; obtain ⟨r0, r1⟩ := hbx.cell2; have rz := hbx.2.2; have rs := hbx.1; (try dsimp only at r0 r1 rz rs); clear hbx; have hbx := st.box 2 (w.heap.size + 1, [.int .i64 c, .int .i64 d]) rfl; obtain ⟨y0, y1⟩ := hbx.cell2; have yz := hbx.2.2; have ys := hbx.1; (try dsimp only at y0 y1 yz ys); clear hbx; have hbx := st.box 3 (w.heap.size, [.int .i64 a, .int .i64 b]) rfl; obtain ⟨x0, x1⟩ := hbx.cell2; have xz := hbx.2.2; have xs := hbx.1; (try dsimp only at x0 x1 xz xs); clear hbx)))
      | (go_at_call 58; refine (NM.out _).mono ?_; rintro e wq2 ⟨rfl, bq2⟩; (first | (have _g := nb0; replace st := st.keep bq2; have hbx := st.box 0 _ rfl; obtain ⟨nb0, nb1⟩ := hbx.cell2; have nbz := hbx.2.2; have nbs := hbx.1; (try dsimp only at nb0 nb1 nbz nbs); clear hbx; have hbx := st.box 1 (w.heap.size + 1 + 1, [.int .i64 0, .int .i64 0]) rfl; obtain ⟨r0, r1⟩ := hbx.cell2; have rz := hbx.2.2; have rs := hbx.1; (try dsimp only at r0 r1 rz rs); clear hbx; have hbx := st.box 2 (w.heap.size + 1, [.int .i64 c, .int .i64 d]) rfl; obtain ⟨y0, y1⟩ := hbx.cell2; have yz := hbx.2.2; have ys := hbx.1; (try dsimp only at y0 y1 yz ys); clear hbx; have hbx := st.box 3 (w.heap.size, [.int .i64 a, .int .i64 b]) rfl; obtain ⟨x0, x1⟩ := hbx.cell2; have xz := hbx.2.2; have xs := hbx.1; (try dsimp only at x0 x1 xz xs); clear hbx) | (have _g := nb0; replace st := st.drew.keep bq2; have hbx := st.box 0 _ rfl; obtain ⟨nb0, nb1⟩ := hbx.cell2; have nbz := hbx.2.2; have nbs := hbx.1; (try dsimp only at nb0 nb1 nbz nbs); clear hbx; have hbx := st.box 1 (w.heap.size + 1 + 1, [.int .i64 0, .int .i64 0]) rfl; obtain ⟨r0, r1⟩ := hbx.cell2; have rz := hbx.2.2; have rs := hbx.1; (try dsimp only at r0 r1 rz rs); clear hbx; have hbx := st.box 2 (w.heap.size + 1, [.int .i64 c, .int .i64 d]) rfl; obtain ⟨y0, y1⟩ := hbx.cell2; have yz := hbx.2.2; have ys := hbx.1; (try dsimp only at y0 y1 yz ys); clear hbx; have hbx := st.box 3 (w.heap.size, [.int .i64 a, .int .i64 b]) rfl; obtain ⟨x0, x1⟩ := hbx.cell2; have xz := hbx.2.2; have xs := hbx.1; (try dsimp only at x0 x1 xz xs); clear hbx) | (replace st := st.keep bq2; have hbx := st.box 0 (w.heap.size + 1 + 1, [.int .i64 0, .int .i64 0]) rfl; obtain ⟨r0, r1⟩ := hbx.cell2; have rz := hbx.2.2; have rs := hbx.1; (try dsimp only at r0 r1 rz rs); clear hbx; have hbx := st.box 1 (w.heap.size + 1, [.int .i64 c, .int .i64 d]) rfl; obtain ⟨y0, y1⟩ := hbx.cell2; have yz := hbx.2.2; have ys := hbx.1; (try dsimp only at y0 y1 yz ys); clear hbx; have hbx := st.box 2 (w.heap.size, [.int .i64 a, .int .i64 b]) rfl; obtain ⟨x0, x1⟩ := hbx.cell2; have xz := hbx.2.2; have xs := hbx.1; (try dsimp only at x0 x1 xz xs); clear hbx) | (replace st := st.drew.keep bq2; have hbx := st.box 0 (w.heap.size + 1 + 1, [.int .i64 0, .int .i64 0]) rfl; obtain ⟨r0, r1⟩ := hbx.cell2; have rz := hbx.2.2; have rs := hbx.1; (try dsimp only at r0 r1 rz rs); clear hbx; have hbx := st.box 1 (w.heap.size + 1, [.int .i64 c, .int .i64 d]) rfl; obtain ⟨y0, y1⟩ := hbx.cell2; have yz := hbx.2.2; have ys := hbx.1; (try dsimp only at y0 y1 yz ys); clear hbx; have hbx := st.box 2 (w.heap.size, [.int .i64 a, .int .i64 b]) rfl; obtain ⟨x0, x1⟩ := hbx.cell2; have xz := hbx.2.2; have xs := hbx.1; (try dsimp only at x0 x1 xz xs); clear hbx) | (have ro := rs; have yo := ys; have xo := xs; replace st := ((st.alloc (.cells #[.int .i64 0, .int .i64 0] 59)).addBox _ [.int .i64 0, .int .i64 0] (Box.made _ _ _ _ (fun j v h => by simpa using h))).keep bq2; have hbx := st.box 0 _ rfl; obtain ⟨nb0, nb1⟩ := hbx.cell2; have nbz := hbx.2.2; have nbs := hbx.1; (try dsimp only at nb0 nb1 nbz nbs); clear hbx; have hbx := st.box 1 (w.heap.size + 1 + 1, [.int .i64 0, .int .i64 0]) rfl; obtain ⟨r0, r1⟩ := hbx.cell2; have rz := hbx.2.2; have rs := hbx.1; (try dsimp only at r0 r1 rz rs); clear hbx; have hbx := st.box 2 (w.heap.size + 1, [.int .i64 c, .int .i64 d]) rfl; obtain ⟨y0, y1⟩ := hbx.cell2; have yz := hbx.2.2; have ys := hbx.1; (try dsimp only at y0 y1 yz ys); clear hbx; have hbx := st.box 3 (w.heap.size, [.int .i64 a, .int .i64 b]) rfl; obtain ⟨x0, x1⟩ := hbx.cell2; have xz := hbx.2.2; have xs := hbx.1; (try dsimp only at x0 x1 xz xs); clear hbx) | (have ro := rs; have yo := ys; have xo := xs; replace st := ((st.alloc (.cells #[.int .i64 0, .int .i64 0] 59)).addBox _ [.int .i64 0, .int .i64 0] (Box.made _ _ _ _ (fun j v h => by simpa using h))).drew.keep bq2; have hbx := st.box 0 _ rfl; obtain ⟨nb0, nb1⟩ := hbx.cell2; have nbz := hbx.2.2; have nbs := hbx.1; (try dsimp only at nb0 nb1 nbz nbs); clear hbx; have hbx := st.box 1 (w.heap.size + 1 + 1, [.int .i64 0, .int .i64 0]) rfl; obtain ⟨r0, r1⟩ := hbx.cell2; have rz := hbx.2.2; have rs := hbx.1; (try dsimp only at r0 r1 rz rs); clear hbx; have hbx := st.box 2 (w.heap.size + 1, [.int .i64 c, .int .i64 d]) rfl; obtain ⟨y0, y1⟩ := hbx.cell2; have yz := hbx.2.2; have ys := hbx.1; (try dsimp only at y0 y1 yz ys); clear hbx; have hbx := st.box 3 (w.heap.size, [.int .i64 a, .int .i64 b]) rfl; obtain ⟨x0, x1⟩ := hbx.cell2; have xz := hbx.2.2; have xs := hbx.1; (try dsimp only at x0 x1 xz xs); clear hbx))))
    all_goals
      (first | (have _g := nb0; replace st := st.setHead (u0 := .int .i64 u) (u1 := .int .i64 v) (by omega) (by intro q hq; simp only [List.mem_cons, List.not_mem_nil, or_false] at hq; rcases hq with rfl | rfl | rfl <;> dsimp only <;> omega) (by intro s hs; cases hs)) | (replace st := (st.alloc (.cells #[.int .i64 u, .int .i64 v] 59)).addBox _ [.int .i64 u, .int .i64 v] (Box.made _ _ _ _ (fun j v h => by simpa using h))))
      go_wp2_with fail
      go_meet
      exact ⟨_, rfl, rfl, by omega, st⟩
  case rest =>
    obtain ⟨nbk, rfl, rfl, hnb, st2⟩ := hcut
    clear st
    have st := st2
    clear st2
    generalize wc = W1 at st ⊢
    have hbx := st.box 0 (nbk, [.int .i64 u, .int .i64 v]) rfl; obtain ⟨p0, p1⟩ := hbx.cell2; have pz := hbx.2.2; have ps := hbx.1; (try dsimp only at p0 p1 pz ps); clear hbx; have hbx := st.box 1 (w.heap.size + 1 + 1, [.int .i64 0, .int .i64 0]) rfl; obtain ⟨r0, r1⟩ := hbx.cell2; have rz := hbx.2.2; have rs := hbx.1; (try dsimp only at r0 r1 rz rs); clear hbx; have hbx := st.box 2 (w.heap.size + 1, [.int .i64 c, .int .i64 d]) rfl; obtain ⟨y0, y1⟩ := hbx.cell2; have yz := hbx.2.2; have ys := hbx.1; (try dsimp only at y0 y1 yz ys); clear hbx; have hbx := st.box 3 (w.heap.size, [.int .i64 a, .int .i64 b]) rfl; obtain ⟨x0, x1⟩ := hbx.cell2; have xz := hbx.2.2; have xs := hbx.1; (try dsimp only at x0 x1 xz xs); clear hbx
    go_wp2_with fail
    go_region_held3 (fun w' => w'.cell? ⟨nbk, 0, none⟩ = some (.int .i64 u) ∧ w'.cell? ⟨nbk, 1, none⟩ = some (.int .i64 v))
      (first | exact ⟨p0, p1⟩ | exact ⟨cell_st2 p0 (by omega), cell_st2 p1 (by omega)⟩ | go_keep)
      (first
      | (go_at_call 96; refine (rounded_impl _ N _ hn (by omega) (by omega) (by omega)).mono ?_; rintro e w2 ⟨rfl, rfl⟩))
    all_goals
      have BB := st.1
      go_wp2
      refine bodyPost_ret (v := .agg #[.int .i64 ((2 * u + N) / (2 * N)), .int .i64 ((2 * v + N) / (2 * N))]) (by simp [results, Try.results70, go_sem, r0, r1]) rfl ?_
      exact ⟨by rw [QA.out, QB.out], by go_grown⟩
theorem part_nrm (c d : Int) : -(2 * nrm c d) ≤ d ∧ d ≤ 2 * nrm c d := by
  have h1 := nrm_four c d
  have h2 := sq_nn (2 * c - d)
  have h3 := sq_nn (d - 1)
  have h4 := sq_nn (d + 1)
  simp only [Int.mul_sub, Int.sub_mul, Int.mul_add, Int.add_mul] at h3 h4
  have h5 : d * d = 0 ∨ 1 ≤ d * d := by have := sq_nn d; omega
  rcases h5 with h5 | h5
  · have := sq_zero (x := d) (by omega)
    have := nrm_nn c d
    omega
  · omega
theorem quo_bd {u N K : Int} (hN : 1 ≤ N) (h1 : -(K * N) ≤ u) (h2 : u ≤ K * N) : -(K + 1) ≤ (2 * u + N) / (2 * N) ∧ (2 * u + N) / (2 * N) ≤ K + 1 := by
  constructor
  · apply Int.le_ediv_of_mul_le (by omega)
    rw [Int.neg_mul, Int.add_mul, Int.mul_left_comm]
    omega
  · apply Int.ediv_le_of_le_mul (by omega)
    rw [Int.add_mul, Int.mul_left_comm]
    omega
theorem q_bd {a b c d : Int} (ha : -2000000000 ≤ a) (ha' : a ≤ 2000000000) (hb : -2000000000 ≤ b) (hb' : b ≤ 2000000000) (hn : 1 ≤ nrm c d) :
    -20000000001 ≤ qA a b c d ∧ qA a b c d ≤ 20000000001 ∧ -20000000001 ≤ qB a b c d ∧ qB a b c d ≤ 20000000001 := by
  have p1 := part_nrm c d
  have p2 := part_nrm (c - d - -d) (c - d)
  have e2 : nrm (c - d - -d) (c - d) = nrm c d := by rw [nrm_turn, nrm_conj]
  rw [e2] at p2
  have u1 := mul_bd ha ha' p2.1 p2.2
  have u2 := mul_bd hb hb' (k := 2 * nrm c d) (y := -d) (by omega) (by omega)
  have u3 := mul_bd ha ha' (k := 2 * nrm c d) (y := -d) (by omega) (by omega)
  have u4 := mul_bd hb hb' p2.1 p2.2
  have A := quo_bd (u := tA a b (c - d) (-d)) (K := 20000000000) hn (by unfold tA; omega) (by unfold tA; omega)
  have B := quo_bd (u := tB a b (c - d) (-d)) (K := 20000000000) hn (by unfold tB; omega) (by unfold tB; omega)
  exact ⟨A.1, A.2, B.1, B.2⟩
set_option maxHeartbeats 2000000 in
theorem rest_impl (a b c d : Int) (w : World) (ha : -2000000000 ≤ a) (ha' : a ≤ 2000000000) (hb : -2000000000 ≤ b) (hb' : b ≤ 2000000000) (hc : -20000 ≤ c) (hc' : c ≤ 20000) (hd : -20000 ≤ d) (hd' : d ≤ 20000) (hn : 1 ≤ nrm c d) :
    Calls Try.prog 71 #[.agg #[.int .i64 a, .int .i64 b], .agg #[.int .i64 c, .int .i64 d]] w fun e w' => e = .returned (.agg #[.int .i64 (rA a b c d), .int .i64 (rB a b c d)]) ∧ Below w.heap.size w w' := by
  have hq := q_bd (c := c) (d := d) ha ha' hb hb' hn
  obtain ⟨p, hp⟩ : ∃ p, qA a b c d = p := ⟨_, rfl⟩
  obtain ⟨q, hq'⟩ : ∃ q, qB a b c d = q := ⟨_, rfl⟩
  rw [hp, hq'] at hq
  have u1 := mul_bd hq.1 hq.2.1 hc hc'
  have u2 := mul_bd hq.1 hq.2.1 hd hd'
  have u3 := mul_bd hq.2.2.1 hq.2.2.2 hc hc'
  have u4 := mul_bd hq.2.2.1 hq.2.2.2 hd hd'
  have hA : -1000000000000000 ≤ tA p q c d ∧ tA p q c d ≤ 1000000000000000 := by unfold tA; omega
  have hB : -1300000000000000 ≤ tB p q c d ∧ tB p q c d ≤ 1300000000000000 := by unfold tB; omega
  clear u1 u2 u3 u4
  have QM := Lib.hid (show ∀ w' : World, Calls Try.prog 70 #[.agg #[.int .i64 a, .int .i64 b], .agg #[.int .i64 c, .int .i64 d]] w' fun e w'' => e = .returned (.agg #[.int .i64 p, .int .i64 q]) ∧ Below w'.heap.size w' w'' from fun w' => by
    have h := quotient_impl a b c d w' ha ha' hb hb' hc hc' hd hd' hn
    rw [hp, hq'] at h
    exact h)
  have RA := Lib.hid (show a - tA p q c d = rA a b c d by unfold rA; rw [hp, hq'])
  have RB := Lib.hid (show b - tB p q c d = rB a b c d by unfold rB; rw [hp, hq'])
  clear hp hq'
  obtain ⟨u, hu⟩ : ∃ u, tA p q c d = u := ⟨_, rfl⟩
  obtain ⟨v, hv⟩ : ∃ v, tB p q c d = v := ⟨_, rfl⟩
  rw [hu] at hA RA
  rw [hv] at hB RB
  have TM := Lib.hid (show ∀ w' : World, Calls Try.prog 94 #[.agg #[.int .i64 p, .int .i64 q], .agg #[.int .i64 c, .int .i64 d]] w' fun e w'' => e = .returned (.agg #[.int .i64 u, .int .i64 v]) ∧ Below w'.heap.size w' w'' from fun w' => by
    have h := times_impl p q c d w' (by omega) (by omega) (by omega) (by omega) (by omega) (by omega) (by omega) (by omega)
    rw [hu, hv] at h
    exact h)
  clear hu hv hn
  have LM := Lib.hid (show ∀ w' : World, Calls Try.prog 79 #[.agg #[.int .i64 a, .int .i64 b], .agg #[.int .i64 u, .int .i64 v]] w' fun e w'' => e = .returned (.agg #[.int .i64 (rA a b c d), .int .i64 (rB a b c d)]) ∧ Below w'.heap.size w' w'' from fun w' => by
    have h := less_impl a b u v w' ha ha' hb hb' (by omega) (by omega) (by omega) (by omega)
    rw [RA.out, RB.out] at h
    exact h)
  have st := St.start w
  replace st := (st.alloc (.cells #[.int .i64 a, .int .i64 b] 59)).addBox _ [.int .i64 a, .int .i64 b] (Box.made _ _ _ _ (fun j v h => by simpa using h))
  replace st := (st.alloc (.cells #[.int .i64 c, .int .i64 d] 59)).addBox _ [.int .i64 c, .int .i64 d] (Box.made _ _ _ _ (fun j v h => by simpa using h))
  replace st := (st.alloc (.cells #[.int .i64 0, .int .i64 0] 59)).addBox _ [.int .i64 0, .int .i64 0] (Box.made _ _ _ _ (fun j v h => by simpa using h))
  simp only [World.size_alloc] at st
  go_enter Try.func71, Try.ntmps71
  go_wp2_with fail
  generalize ((w.alloc _).alloc _).alloc _ = W0 at st ⊢
  have hbx := st.box 0 (w.heap.size + 1 + 1, [.int .i64 0, .int .i64 0]) rfl; obtain ⟨r0, r1⟩ := hbx.cell2; have rz := hbx.2.2; have rs := hbx.1; (try dsimp only at r0 r1 rz rs); clear hbx; have hbx := st.box 1 (w.heap.size + 1, [.int .i64 c, .int .i64 d]) rfl; obtain ⟨y0, y1⟩ := hbx.cell2; have yz := hbx.2.2; have ys := hbx.1; (try dsimp only at y0 y1 yz ys); clear hbx; have hbx := st.box 2 (w.heap.size, [.int .i64 a, .int .i64 b]) rfl; obtain ⟨x0, x1⟩ := hbx.cell2; have xz := hbx.2.2; have xs := hbx.1; (try dsimp only at x0 x1 xz xs); clear hbx
  go_region_held3 (fun w' => w'.cell? ⟨w.heap.size + 1, 0, none⟩ = some (.int .i64 c) ∧ w'.cell? ⟨w.heap.size + 1, 1, none⟩ = some (.int .i64 d) ∧ w'.cell? ⟨w.heap.size, 0, none⟩ = some (.int .i64 a) ∧ w'.cell? ⟨w.heap.size, 1, none⟩ = some (.int .i64 b))
    (first | exact ⟨y0, y1, x0, x1⟩ | exact ⟨cell_al y0 _, cell_al y1 _, cell_al x0 _, cell_al x1 _⟩ | exact ⟨cell_ald y0 _, cell_ald y1 _, cell_ald x0 _, cell_ald x1 _⟩ | exact ⟨cell_st2 y0 (by omega), cell_st2 y1 (by omega), cell_st2 x0 (by omega), cell_st2 x1 (by omega)⟩ | go_keep)
    (first
      | (go_at_call 70; refine (QM.out _).mono ?_; rintro e wq0 ⟨rfl, bq0⟩; (first | (replace st := st.keep bq0; have hbx := st.box 0 (w.heap.size + 1 + 1, [.int .i64 0, .int .i64 0]) rfl; obtain ⟨r0, r1⟩ := hbx.cell2; have rz := hbx.2.2; have rs := hbx.1; (try dsimp only at r0 r1 rz rs); clear hbx; have hbx := st.box 1 (w.heap.size + 1, [.int .i64 c, .int .i64 d]) rfl; obtain ⟨y0, y1⟩ := hbx.cell2; have yz := hbx.2.2; have ys := hbx.1; (try dsimp only at y0 y1 yz ys); clear hbx; have hbx := st.box 2 (w.heap.size, [.int .i64 a, .int .i64 b]) rfl; obtain ⟨x0, x1⟩ := hbx.cell2; have xz := hbx.2.2; have xs := hbx.1; (try dsimp only at x0 x1 xz xs); clear hbx) | (replace st := st.drew.keep bq0; have hbx := st.box 0 (w.heap.size + 1 + 1, [.int .i64 0, .int .i64 0]) rfl; obtain ⟨r0, r1⟩ := hbx.cell2; have rz := hbx.2.2; have rs := hbx.1; (try dsimp only at r0 r1 rz rs); clear hbx; have hbx := st.box 1 (w.heap.size + 1, [.int .i64 c, .int .i64 d]) rfl; obtain ⟨y0, y1⟩ := hbx.cell2; have yz := hbx.2.2; have ys := hbx.1; (try dsimp only at y0 y1 yz ys); clear hbx; have hbx := st.box 2 (w.heap.size, [.int .i64 a, .int .i64 b]) rfl; obtain ⟨x0, x1⟩ := hbx.cell2; have xz := hbx.2.2; have xs := hbx.1; (try dsimp only at x0 x1 xz xs); clear hbx)))
      | (go_at_call 94; refine (TM.out _).mono ?_; rintro e wq1 ⟨rfl, bq1⟩; (first | (replace st := st.keep bq1; have hbx := st.box 0 (w.heap.size + 1 + 1, [.int .i64 0, .int .i64 0]) rfl; obtain ⟨r0, r1⟩ := hbx.cell2; have rz := hbx.2.2; have rs := hbx.1; (try dsimp only at r0 r1 rz rs); clear hbx; have hbx := st.box 1 (w.heap.size + 1, [.int .i64 c, .int .i64 d]) rfl; obtain ⟨y0, y1⟩ := hbx.cell2; have yz := hbx.2.2; have ys := hbx.1; (try dsimp only at y0 y1 yz ys); clear hbx; have hbx := st.box 2 (w.heap.size, [.int .i64 a, .int .i64 b]) rfl; obtain ⟨x0, x1⟩ := hbx.cell2; have xz := hbx.2.2; have xs := hbx.1; (try dsimp only at x0 x1 xz xs); clear hbx) | (replace st := st.drew.keep bq1; have hbx := st.box 0 (w.heap.size + 1 + 1, [.int .i64 0, .int .i64 0]) rfl; obtain ⟨r0, r1⟩ := hbx.cell2; have rz := hbx.2.2; have rs := hbx.1; (try dsimp only at r0 r1 rz rs); clear hbx; have hbx := st.box 1 (w.heap.size + 1, [.int .i64 c, .int .i64 d]) rfl; obtain ⟨y0, y1⟩ := hbx.cell2; have yz := hbx.2.2; have ys := hbx.1; (try dsimp only at y0 y1 yz ys); clear hbx; have hbx := st.box 2 (w.heap.size, [.int .i64 a, .int .i64 b]) rfl; obtain ⟨x0, x1⟩ := hbx.cell2; have xz := hbx.2.2; have xs := hbx.1; (try dsimp only at x0 x1 xz xs); clear hbx)))
      | (go_at_call 79; refine (LM.out _).mono ?_; rintro e wq2 ⟨rfl, bq2⟩; (first | (replace st := st.keep bq2; have hbx := st.box 0 (w.heap.size + 1 + 1, [.int .i64 0, .int .i64 0]) rfl; obtain ⟨r0, r1⟩ := hbx.cell2; have rz := hbx.2.2; have rs := hbx.1; (try dsimp only at r0 r1 rz rs); clear hbx; have hbx := st.box 1 (w.heap.size + 1, [.int .i64 c, .int .i64 d]) rfl; obtain ⟨y0, y1⟩ := hbx.cell2; have yz := hbx.2.2; have ys := hbx.1; (try dsimp only at y0 y1 yz ys); clear hbx; have hbx := st.box 2 (w.heap.size, [.int .i64 a, .int .i64 b]) rfl; obtain ⟨x0, x1⟩ := hbx.cell2; have xz := hbx.2.2; have xs := hbx.1; (try dsimp only at x0 x1 xz xs); clear hbx) | (replace st := st.drew.keep bq2; have hbx := st.box 0 (w.heap.size + 1 + 1, [.int .i64 0, .int .i64 0]) rfl; obtain ⟨r0, r1⟩ := hbx.cell2; have rz := hbx.2.2; have rs := hbx.1; (try dsimp only at r0 r1 rz rs); clear hbx; have hbx := st.box 1 (w.heap.size + 1, [.int .i64 c, .int .i64 d]) rfl; obtain ⟨y0, y1⟩ := hbx.cell2; have yz := hbx.2.2; have ys := hbx.1; (try dsimp only at y0 y1 yz ys); clear hbx; have hbx := st.box 2 (w.heap.size, [.int .i64 a, .int .i64 b]) rfl; obtain ⟨x0, x1⟩ := hbx.cell2; have xz := hbx.2.2; have xs := hbx.1; (try dsimp only at x0 x1 xz xs); clear hbx))))
  all_goals
    have BB := st.1
    go_wp2
    refine bodyPost_ret (v := .agg #[.int .i64 (rA a b c d), .int .i64 (rB a b c d)]) (by simp [results, Try.results71, go_sem, r0, r1]) rfl ?_
    exact ⟨rfl, by go_grown⟩
end Go.Proofs.Ytfadlnbmpgbeaaa
