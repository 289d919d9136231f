/- l10Zero, TurnRing and StickelbergerOf of the model. -/
import Derived.Test.YtnhpodlcgkgpbaaRgW
import Derived.Test.YtnhpodlcgkgpbaaRgX
import Derived.Deep.RegionHeld3
import Derived.Deep.DeepCutAuto
namespace Go.Proofs.Ytnhpodlcgkgpbaa
open Go.RowKit Go.ChangeShapes Go.Sort
set_option linter.unusedVariables false
set_option linter.unusedSimpArgs false
set_option maxRecDepth 100000
set_option maxHeartbeats 2000000

section
variable {o : Oper} {a : Act} {w : World} {K : Act → World → Prop} {Q : Exit → Act → World → Prop}
theorem wp_allocR (ho : o.op = .alloc 28) (h : ∀ w' b, Box w' b [.int .i64 0, .slice none 0 0] → Below w.heap.size w w' → w.heap.size ≤ b → b < w'.heap.size → w'.heap.size = b + 1 → K (a.put o.dst (.pointer (some ⟨b, 0, none⟩))) w') : o.wp Try.prog a w K Q := by
  unfold Oper.wp execOp
  have := h _ _ (Box.boxed w 28 _) ((Below.refl _ _).alloc (Nat.le_refl _) _) (Nat.le_refl _) (by simp) (by simp)
  simp only [ho, Instr.alloc, Sem.run_bind, Sem.run_pure, Result.andThen_ok, rg_zero, run_newVar _ _ _ (show ¬ (#[Value.int .i64 0, Value.slice none 0 0] : Array Value) = #[] from by simp)]
  exact this
theorem wp_storeR (x y : Operand) (ho : o.op = .store 28 x y) (b : Nat) (hx : a.eval x = .pointer (some ⟨b, 0, none⟩)) {v0 v1 u0 u1 : Value} (hy : a.eval y = .agg #[v0, v1]) (h0 : v0.oneCell' = true) (h1 : v1.oneCell' = true) (hb : Box w b [u0, u1])
    (h : ∀ w', Box w' b [v0, v1] → Frame b (b + 1) w w' → K (a.put o.dst undef) w') : o.wp Try.prog a w K Q := by
  refine wp_store_mid _ x y ho b 0 #[v0, v1] hx hy (hb.there rfl) (by kernel_rfl) (all_oneCell_toArray (cs := [v0, v1]) (fun v hv => by
    simp only [List.mem_cons, List.not_mem_nil, or_false] at hv
    rcases hv with rfl | rfl
    · exact h0
    · exact h1)) ?_
  exact h _ (hb.setAll rfl) (Frame.setCells (Nat.le_refl _) (Nat.lt_succ_self _) _ 0 _ _ (Frame.refl _ _ _))
end
theorem l10Zero_any (n : Nat) (h1 : 1 ≤ n) (h40 : n ≤ 40) (w : World) :
    Calls Try.prog 109 #[.int .i64 (n : Int)] w fun e w' => ∃ a' k', e = .returned (.agg #[.int .i64 (n : Int), .slice a' (phiN n) k']) ∧ Sl true w' w.heap.size w'.heap.size (.slice a' (phiN n) k') (phiN n) (fun _ => 0) ∧ Below w.heap.size w w' := by
  have hp := phi_le40 n (by omega)
  have HMK := Lib.hid (run_make_row' (P := Try.prog) 22 2 (.int .i64 0) 8 Try.underlying22 Try.info2 rfl .i64 .i64 (phiN n) (by omega) (by omega))
  go_enter Try.func109, Try.ntmps109
  go_wp2_with (first
    | (refine wpList_allocR rfl rfl ?_; intro w2 x2 b2 z2
       have st := ((St.start w).keep b2).addBox _ _ x2
       have Z2 := Lib.hid z2
       clear x2 b2 z2)
    | (go_at_call 112; refine (l10Residues_any n h1 h40 _).mono ?_; rintro e w3 ⟨gr, kr, rfl, s3, b3⟩
       have Z3 := Lib.hid b3.size
       replace st := (st.keep b3).alloc (.cells (madeCells #[.int .i64 0] (phiN n)) 2)
       have BR := st.box 0 (w.heap.size, [.int .i64 0, .slice none 0 0]) rfl
       dsimp only at BR
       have hmk := HMK.out
       clear b3 s3)
    | (refine wpList_storeR rfl _ _ rfl w.heap.size rfl (v0 := .int .i64 (n : Int)) (v1 := .slice (some ⟨w3.heap.size, 0, none⟩) (phiN n) (phiN n)) rfl rfl rfl BR ?_; intro w9 x9 f9
       obtain ⟨d0, d1⟩ := x9.cell2))
  have q := (Sl.made w3 (madeCells #[.int .i64 0] (phiN n)) 2 (phiN n) (phiN n) (fun _ => 0) (Nat.le_refl _) (by unfold maxLen; omega) (fun _ _ => by simp [inR]) (fun j hj => madeCells_at _ _ _ hj))
  refine bodyPost_ret (v := .agg #[.int .i64 (n : Int), .slice (some ⟨w3.heap.size, 0, none⟩) (phiN n) (phiN n)]) (by simp [results, Try.results109, go_sem, d0, d1]) rfl ⟨_, _, rfl, ?_, ?_⟩
  · refine (q.keepF f9 (.inr (by have := Z2.out; have := Z3.out; omega))).wide (by have := Z2.out; have := Z3.out; omega) ?_ (Nat.le_refl _)
    have := f9.size
    simpa using this
  · exact st.1.trans (f9.below (Nat.le_refl _) st.1.size)
theorem l10Zero_let (n : Nat) (h1 : 1 ≤ n) (h40 : n ≤ 40) (w : World) :
    Calls Try.prog 109 #[.int .i64 (n : Int)] w fun e w' => ∃ l h a' k', e = .returned (.agg #[.int .i64 (n : Int), .slice a' (phiN n) k']) ∧ Sl true w' l h (.slice a' (phiN n) k') (phiN n) (fun _ => 0) ∧ w.heap.size ≤ l ∧ h ≤ w'.heap.size ∧ Below w.heap.size w w' :=
  (l10Zero_any n h1 h40 w).mono fun e w' ⟨a, k, h1, h2, h3⟩ => ⟨_, _, a, k, h1, h2, Nat.le_refl _, Nat.le_refl _, h3⟩
theorem l10Residues_let (n : Nat) (h1 : 1 ≤ n) (h40 : n ≤ 40) (w : World) :
    Calls Try.prog 112 #[.int .i64 (n : Int)] w fun e w' => ∃ l h g k, e = .returned (.slice (some ⟨g, 0, none⟩) (phiN n) k) ∧ Sl true w' l h (.slice (some ⟨g, 0, none⟩) (phiN n) k) (phiN n) (fun k => (res n k : Int)) ∧ w.heap.size ≤ l ∧ h ≤ w'.heap.size ∧ Below w.heap.size w w' :=
  (l10Residues_any n h1 h40 w).mono fun e w' ⟨a, k, h1, h2, h3⟩ => ⟨_, _, a, k, h1, h2, Nat.le_refl _, Nat.le_refl _, h3⟩
section
variable {o : Bool} {lo hi n : Nat} {v : Value} {f : Nat → Int}
theorem TurnRing_spec_bad (x : Int) (w : World) (hs : Sl o w lo hi v n f) (h : ¬ RgP x n f) :
    Calls Try.prog 35 #[.agg #[.int .i64 x, v]] w fun e w' => e = .returned (.tuple #[.agg #[.int .i64 0, .slice none 0 0], .int .i64 1]) ∧ Below w.heap.size w w' := by
  have hm := hs.len
  unfold maxLen at hm
  obtain ⟨a, cap, rfl⟩ := hs.shape
  have hhs := hs.size
  have st := (St.start w).addSl ⟨o, lo, hi, .slice a n cap, n, f⟩ hs
  have H := Lib.hid h
  clear h hs
  go_enter Try.func35, Try.ntmps35
  go_wp2_with (first
    | (refine wpList_boxR rfl _ rfl (v0 := .int .i64 x) (v1 := .slice a n cap) rfl ?_; intro w1 x1 b1 z1
       replace st := (st.keep b1).addBox _ _ x1
       have Z1 := Lib.hid z1
       clear x1 b1 z1)
    | ((fail_if_success (have _g := Z2)); refine wpList_allocR rfl rfl ?_; intro w2 x2 b2 z2
       replace st := (st.keep b2).addBox _ _ x2
       have Z2 := Lib.hid z2
       obtain ⟨c0, c1⟩ := (st.box 1 (w.heap.size, [.int .i64 x, .slice a n cap]) rfl).cell2
       clear x2 b2 z2)
    | (go_at_call 90; refine (l10Is_no x _ (st.sl 0 ⟨o, lo, hi, .slice a n cap, n, f⟩ rfl) H.out).mono ?_; rintro e w3 ⟨rfl, b3⟩
       replace st := st.keep b3
       have BR := st.box 0 (w1.heap.size, [.int .i64 0, .slice none 0 0]) rfl
       dsimp only at BR
       clear b3 c0 c1)
    | (refine wpList_storeR rfl _ _ rfl w1.heap.size rfl (v0 := .int .i64 0) (v1 := .slice none 0 0) rfl rfl rfl BR ?_; intro w9 x9 f9
       obtain ⟨d0, d1⟩ := x9.cell2))
  refine bodyPost_ret (v := .tuple #[.agg #[.int .i64 0, .slice none 0 0], .int .i64 1]) (by simp [results, Try.results35, go_sem, d0, d1]) rfl ⟨rfl, ?_⟩
  exact st.1.trans (f9.below (by have := Z1.out; omega) st.1.size)
/-- The places of a new variable and of two slices. -/
structure Apart (B nb lo1 hi1 lo2 hi2 : Nat) : Prop where
  p0 : B < nb
  p1 : B < lo1
  p2 : B < lo2
  p3 : nb < lo1 ∨ hi1 ≤ nb
  p4 : nb < lo2 ∨ hi2 ≤ nb
  p5 : hi1 ≤ lo2
theorem TurnRing_spec_ok (N : Nat) (w : World) (hs : Sl o w lo hi v n f) (h : RgP N n f) :
    Calls Try.prog 35 #[.agg #[.int .i64 (N : Int), v]] w fun e w' => ∃ a' k', e = .returned (.tuple #[.agg #[.int .i64 (N : Int), .slice a' n k'], .int .i64 0]) ∧ Sl true w' w.heap.size w'.heap.size (.slice a' n k') n (fun j => f (ivR N j)) ∧ Below w.heap.size w w' := by
  have h2 : 2 ≤ N := by have := h.1; omega
  have h40 : N ≤ 40 := by have := h.2.1; omega
  have hn : n = phiN N := h.2.2.1
  have hp := phi_le40 N (by omega)
  have HFB := Lib.hid h.2.2.2
  have hm := hs.len
  unfold maxLen at hm
  obtain ⟨a, cap, rfl⟩ := hs.shape
  have hhs := hs.size
  have st := (St.start w).addSl ⟨o, lo, hi, .slice a n cap, n, f⟩ hs
  have H := Lib.hid h
  have HN := Lib.hid hn
  clear h hs hn
  go_enter Try.func35, Try.ntmps35
  go_wp2_with (first
    | (refine wpList_boxR rfl _ rfl (v0 := .int .i64 (N : Int)) (v1 := .slice a n cap) rfl ?_; intro w1 x1 b1 z1
       replace st := (st.keep b1).addBox _ _ x1
       have Z1 := Lib.hid z1
       clear x1 b1 z1)
    | ((fail_if_success (have _g := Z2)); refine wpList_allocR rfl rfl ?_; intro w2 x2 b2 z2
       replace st := (st.keep b2).addBox _ _ x2
       have Z2 := Lib.hid z2
       obtain ⟨c0, c1⟩ := (st.box 1 (w.heap.size, [.int .i64 (N : Int), .slice a n cap]) rfl).cell2
       clear x2 b2 z2)
    | (go_at_call 90; refine (l10Is_yes N _ (st.sl 0 ⟨o, lo, hi, .slice a n cap, n, f⟩ rfl) H.out).mono ?_; rintro e w3 ⟨rfl, b3⟩
       have Z3 := Lib.hid b3.size
       replace st := st.keep b3
       clear b3 c0 c1))
  have hz12 : w.heap.size < w1.heap.size := by have := Z1.out; omega
  go_cut [4, 5] (fun s4 s5 wx => ∃ nb lo1 hi1 a1 k1 lo2 hi2 g2 k2, s4 = .pointer (some ⟨nb, 0, none⟩) ∧ s5 = .slice (some ⟨g2, 0, none⟩) (phiN N) k2 ∧ Apart w1.heap.size nb lo1 hi1 lo2 hi2 ∧ St w wx [(nb, [.int .i64 (N : Int), .slice a1 (phiN N) k1]), (w1.heap.size, [.int .i64 0, .slice none 0 0]), (w.heap.size, [.int .i64 (N : Int), .slice a n cap])] [⟨true, lo2, hi2, .slice (some ⟨g2, 0, none⟩) (phiN N) k2, phiN N, fun k => (res N k : Int)⟩, ⟨true, lo1, hi1, .slice a1 (phiN N) k1, phiN N, fun _ => 0⟩, ⟨o, lo, hi, .slice a n cap, n, f⟩])
  case first =>
    replace st := st.drew
    have szB := st.1.size
    have szR := (st.box 0 (w1.heap.size, [.int .i64 0, .slice none 0 0]) rfl).1
    dsimp only at szR
    simp only [World.size_drew] at szB szR
    refine wp_region_held_drew (S := fun wy => St w wy [(w1.heap.size, [.int .i64 0, .slice none 0 0]), (w.heap.size, [.int .i64 (N : Int), .slice a n cap])] [⟨o, lo, hi, .slice a n cap, n, f⟩]) (by kernel_rfl) (st) (fun hHeld => ?_)
    refine wpAnyH_take (i := 0) (v := .pointer (some ⟨w.heap.size, 0, none⟩)) rfl (by kernel_rfl) (by kernel_rfl) (by kernel_rfl) (fun _ _ _ h => h) (Or.inl ⟨by rfl, ?_⟩) hHeld ?_
    · intro wy hy; go_simp
    (try simp only [Act.put, List.getElem_toArray, List.getElem_cons_zero, List.getElem_cons_succ, List.setIfInBounds_toArray, List.set_cons_zero, List.set_cons_succ])
    refine wpAnyH_take (i := 3) (v := .pointer (some ⟨w.heap.size, 0, none⟩)) rfl (by kernel_rfl) (by kernel_rfl) (by kernel_rfl) (fun _ _ _ h => h) (Or.inl ⟨by rfl, ?_⟩) hHeld ?_
    · intro wy hy; go_simp
    (try simp only [Act.put, List.getElem_toArray, List.getElem_cons_zero, List.getElem_cons_succ, List.setIfInBounds_toArray, List.set_cons_zero, List.set_cons_succ])
    refine wpAnyH_take (i := 1) (v := .int .i64 (N : Int)) rfl (by kernel_rfl) (by kernel_rfl) (by kernel_rfl) (fun _ _ _ h => h) (Or.inl ⟨by rfl, ?_⟩) hHeld ?_
    · intro wy hy; obtain ⟨c0, c1⟩ := (hy.box 1 (w.heap.size, [.int .i64 (N : Int), .slice a n cap]) rfl).cell2; go_simp
    (try simp only [Act.put, List.getElem_toArray, List.getElem_cons_zero, List.getElem_cons_succ, List.setIfInBounds_toArray, List.set_cons_zero, List.set_cons_succ])
    refine wpAnyH_take (i := 4) (v := .int .i64 (N : Int)) rfl (by kernel_rfl) (by kernel_rfl) (by kernel_rfl) (fun _ _ _ h => h) (Or.inl ⟨by rfl, ?_⟩) hHeld ?_
    · intro wy hy; obtain ⟨c0, c1⟩ := (hy.box 1 (w.heap.size, [.int .i64 (N : Int), .slice a n cap]) rfl).cell2; go_simp
    (try simp only [Act.put, List.getElem_toArray, List.getElem_cons_zero, List.getElem_cons_succ, List.setIfInBounds_toArray, List.set_cons_zero, List.set_cons_succ])
    refine wpAnyH_ready (rs := [2, 6]) (by kernel_rfl) (by simp) ?_
    refine AllReadyH.cons rfl (fun K hK => ?_) (AllReadyH.cons rfl (fun K hK => ?_) AllReadyH.nil)
    · rw [if_pos (by rfl)]
      (try simp only [List.getElem_toArray, List.getElem_cons_zero, List.getElem_cons_succ])
      go_simp
      go_at_call 109
      refine (l10Zero_let N (by omega) h40 _).mono ?_
      rintro e w6 ⟨l6, h6, a6, k6, rfl, s6, hl6, hh6, b6⟩
      try simp only [World.size_drew] at hl6
      have z6 := b6.size
      try simp only [World.size_drew] at z6
      have zz6 := Lib.hid z6
      skip
      replace st := (st.keep b6).addSl ⟨true, l6, h6, .slice a6 (phiN N) k6, phiN N, fun _ => 0⟩ s6
      try simp only [World.size_drew] at st
      clear s6
      refine hK.out _ _ (hHeld.keep b6) (fun hHeld => ?_)
      clear b6
      clear hK K
      (try simp only [Act.put, List.getElem_toArray, List.getElem_cons_zero, List.getElem_cons_succ, List.setIfInBounds_toArray, List.set_cons_zero, List.set_cons_succ])
      refine wpAnyH_ready (rs := [5, 6]) (by kernel_rfl) (by simp) ?_
      refine AllReadyH.cons rfl (fun K hK => ?_) (AllReadyH.cons rfl (fun K hK => ?_) AllReadyH.nil)
      · rw [if_pos (by rfl)]
        (try simp only [List.getElem_toArray, List.getElem_cons_zero, List.getElem_cons_succ])
        go_simp
        go_at_call 112
        refine (l10Residues_let N (by omega) h40 _).mono ?_
        rintro e w7 ⟨l7, h7, g7, k7, rfl, s7, hl7, hh7, b7⟩
        try simp only [World.size_drew] at hl7
        have z7 := b7.size
        try simp only [World.size_drew] at z7
        replace st := (st.keep b7).addSl ⟨true, l7, h7, .slice (some ⟨g7, 0, none⟩) (phiN N) k7, phiN N, fun k => (res N k : Int)⟩ s7
        clear s7
        refine hK.out _ _ (hHeld.keep b7) (fun hHeld => ?_)
        clear b7
        clear hK K
        (try simp only [Act.put, List.getElem_toArray, List.getElem_cons_zero, List.getElem_cons_succ, List.setIfInBounds_toArray, List.set_cons_zero, List.set_cons_succ])
        refine wpAnyH_ready (rs := [6]) (by kernel_rfl) (by simp) ?_
        refine AllReadyH.cons rfl (fun K hK => ?_) AllReadyH.nil
        rw [if_pos (by rfl)]
        (try simp only [List.getElem_toArray, List.getElem_cons_zero, List.getElem_cons_succ])
        refine wp_allocR rfl ?_
        intro w8 nb x8 b8 hn8 hn8' hn8''
        try simp only [World.size_drew] at hn8
        replace st := (st.keep b8).addBox _ _ x8
        refine hK.out _ _ (hHeld.keep b8) (fun hHeld => ?_)
        clear b8 x8
        clear hK K
        (try simp only [Act.put, List.getElem_toArray, List.getElem_cons_zero, List.getElem_cons_succ, List.setIfInBounds_toArray, List.set_cons_zero, List.set_cons_succ])
        refine wpAnyH_ready (rs := [7]) (by kernel_rfl) (by simp) ?_
        refine AllReadyH.cons rfl (fun K hK => ?_) AllReadyH.nil
        rw [if_pos (by rfl)]
        (try simp only [List.getElem_toArray, List.getElem_cons_zero, List.getElem_cons_succ])
        refine wp_storeR _ _ rfl nb rfl (v0 := .int .i64 (N : Int)) (v1 := .slice a6 (phiN N) k6) rfl rfl rfl (st.box 0 (nb, [.int .i64 0, .slice none 0 0]) rfl) ?_
        intro w9 x9 f9
        replace st := st.headR x9 f9 (by omega) (by intro q hq; simp only [List.mem_cons, List.not_mem_nil, or_false] at hq; rcases hq with rfl | rfl <;> dsimp only <;> omega) (by intro q hq; simp only [List.mem_cons, List.not_mem_nil, or_false] at hq; rcases hq with rfl | rfl | rfl <;> dsimp only <;> omega)
        refine hK.out _ _ (st.subR (fun b hb => List.mem_cons_of_mem _ hb) (fun s hs => List.mem_cons_of_mem _ (List.mem_cons_of_mem _ hs))) (fun hHeld => ?_)
        clear x9
        clear hK K
        (try simp only [Act.put, List.getElem_toArray, List.getElem_cons_zero, List.getElem_cons_succ, List.setIfInBounds_toArray, List.set_cons_zero, List.set_cons_succ])
        refine wpAnyH_take (i := 8) (v := .slice (some ⟨g7, 0, none⟩) (phiN N) k7) rfl (by kernel_rfl) (by kernel_rfl) (by kernel_rfl) (fun _ _ _ h => h) (Or.inl ⟨by rfl, ?_⟩) hHeld ?_
        · intro wy hy; go_simp
        (try simp only [Act.put, List.getElem_toArray, List.getElem_cons_zero, List.getElem_cons_succ, List.setIfInBounds_toArray, List.set_cons_zero, List.set_cons_succ])
        refine wpAnyH_done (by kernel_rfl) ?_ _
        go_wp2_with fail
        go_meet
        exact ⟨nb, _, _, a6, k6, _, _, g7, k7, rfl, rfl, ⟨by omega, by omega, by omega, by omega, by omega, by omega⟩, st⟩
      · rw [if_pos (by rfl)]
        (try simp only [List.getElem_toArray, List.getElem_cons_zero, List.getElem_cons_succ])
        refine wp_allocR rfl ?_
        intro w8 nb x8 b8 hn8 hn8' hn8''
        try simp only [World.size_drew] at hn8
        replace st := (st.keep b8).addBox _ _ x8
        refine hK.out _ _ (hHeld.keep b8) (fun hHeld => ?_)
        clear b8 x8
        clear hK K
        (try simp only [Act.put, List.getElem_toArray, List.getElem_cons_zero, List.getElem_cons_succ, List.setIfInBounds_toArray, List.set_cons_zero, List.set_cons_succ])
        refine wpAnyH_ready (rs := [5]) (by kernel_rfl) (by simp) ?_
        refine AllReadyH.cons rfl (fun K hK => ?_) AllReadyH.nil
        rw [if_pos (by rfl)]
        (try simp only [List.getElem_toArray, List.getElem_cons_zero, List.getElem_cons_succ])
        go_simp
        go_at_call 112
        refine (l10Residues_let N (by omega) h40 _).mono ?_
        rintro e w7 ⟨l7, h7, g7, k7, rfl, s7, hl7, hh7, b7⟩
        try simp only [World.size_drew] at hl7
        have z7 := b7.size
        try simp only [World.size_drew] at z7
        replace st := (st.keep b7).addSl ⟨true, l7, h7, .slice (some ⟨g7, 0, none⟩) (phiN N) k7, phiN N, fun k => (res N k : Int)⟩ s7
        clear s7
        refine hK.out _ _ (hHeld.keep b7) (fun hHeld => ?_)
        clear b7
        clear hK K
        (try simp only [Act.put, List.getElem_toArray, List.getElem_cons_zero, List.getElem_cons_succ, List.setIfInBounds_toArray, List.set_cons_zero, List.set_cons_succ])
        refine wpAnyH_ready (rs := [7]) (by kernel_rfl) (by simp) ?_
        refine AllReadyH.cons rfl (fun K hK => ?_) AllReadyH.nil
        rw [if_pos (by rfl)]
        (try simp only [List.getElem_toArray, List.getElem_cons_zero, List.getElem_cons_succ])
        refine wp_storeR _ _ rfl nb rfl (v0 := .int .i64 (N : Int)) (v1 := .slice a6 (phiN N) k6) rfl rfl rfl (st.box 0 (nb, [.int .i64 0, .slice none 0 0]) rfl) ?_
        intro w9 x9 f9
        replace st := st.headR x9 f9 (by omega) (by intro q hq; simp only [List.mem_cons, List.not_mem_nil, or_false] at hq; rcases hq with rfl | rfl <;> dsimp only <;> omega) (by intro q hq; simp only [List.mem_cons, List.not_mem_nil, or_false] at hq; rcases hq with rfl | rfl | rfl <;> dsimp only <;> omega)
        refine hK.out _ _ (st.subR (fun b hb => List.mem_cons_of_mem _ hb) (fun s hs => List.mem_cons_of_mem _ (List.mem_cons_of_mem _ hs))) (fun hHeld => ?_)
        clear x9
        clear hK K
        (try simp only [Act.put, List.getElem_toArray, List.getElem_cons_zero, List.getElem_cons_succ, List.setIfInBounds_toArray, List.set_cons_zero, List.set_cons_succ])
        refine wpAnyH_take (i := 8) (v := .slice (some ⟨g7, 0, none⟩) (phiN N) k7) rfl (by kernel_rfl) (by kernel_rfl) (by kernel_rfl) (fun _ _ _ h => h) (Or.inl ⟨by rfl, ?_⟩) hHeld ?_
        · intro wy hy; go_simp
        (try simp only [Act.put, List.getElem_toArray, List.getElem_cons_zero, List.getElem_cons_succ, List.setIfInBounds_toArray, List.set_cons_zero, List.set_cons_succ])
        refine wpAnyH_done (by kernel_rfl) ?_ _
        go_wp2_with fail
        go_meet
        exact ⟨nb, _, _, a6, k6, _, _, g7, k7, rfl, rfl, ⟨by omega, by omega, by omega, by omega, by omega, by omega⟩, st⟩
    · rw [if_pos (by rfl)]
      (try simp only [List.getElem_toArray, List.getElem_cons_zero, List.getElem_cons_succ])
      refine wp_allocR rfl ?_
      intro w8 nb x8 b8 hn8 hn8' hn8''
      try simp only [World.size_drew] at hn8
      replace st := (st.keep b8).addBox _ _ x8
      refine hK.out _ _ (hHeld.keep b8) (fun hHeld => ?_)
      clear b8 x8
      clear hK K
      (try simp only [Act.put, List.getElem_toArray, List.getElem_cons_zero, List.getElem_cons_succ, List.setIfInBounds_toArray, List.set_cons_zero, List.set_cons_succ])
      refine wpAnyH_ready (rs := [2]) (by kernel_rfl) (by simp) ?_
      refine AllReadyH.cons rfl (fun K hK => ?_) AllReadyH.nil
      rw [if_pos (by rfl)]
      (try simp only [List.getElem_toArray, List.getElem_cons_zero, List.getElem_cons_succ])
      go_simp
      go_at_call 109
      refine (l10Zero_let N (by omega) h40 _).mono ?_
      rintro e w6 ⟨l6, h6, a6, k6, rfl, s6, hl6, hh6, b6⟩
      try simp only [World.size_drew] at hl6
      have z6 := b6.size
      try simp only [World.size_drew] at z6
      have zz6 := Lib.hid z6
      skip
      replace st := (st.keep b6).addSl ⟨true, l6, h6, .slice a6 (phiN N) k6, phiN N, fun _ => 0⟩ s6
      try simp only [World.size_drew] at st
      clear s6
      refine hK.out _ _ (hHeld.keep b6) (fun hHeld => ?_)
      clear b6
      clear hK K
      (try simp only [Act.put, List.getElem_toArray, List.getElem_cons_zero, List.getElem_cons_succ, List.setIfInBounds_toArray, List.set_cons_zero, List.set_cons_succ])
      refine wpAnyH_ready (rs := [5]) (by kernel_rfl) (by simp) ?_
      refine AllReadyH.cons rfl (fun K hK => ?_) AllReadyH.nil
      rw [if_pos (by rfl)]
      (try simp only [List.getElem_toArray, List.getElem_cons_zero, List.getElem_cons_succ])
      go_simp
      go_at_call 112
      refine (l10Residues_let N (by omega) h40 _).mono ?_
      rintro e w7 ⟨l7, h7, g7, k7, rfl, s7, hl7, hh7, b7⟩
      try simp only [World.size_drew] at hl7
      have z7 := b7.size
      try simp only [World.size_drew] at z7
      replace st := (st.keep b7).addSl ⟨true, l7, h7, .slice (some ⟨g7, 0, none⟩) (phiN N) k7, phiN N, fun k => (res N k : Int)⟩ s7
      clear s7
      refine hK.out _ _ (hHeld.keep b7) (fun hHeld => ?_)
      clear b7
      clear hK K
      (try simp only [Act.put, List.getElem_toArray, List.getElem_cons_zero, List.getElem_cons_succ, List.setIfInBounds_toArray, List.set_cons_zero, List.set_cons_succ])
      refine wpAnyH_ready (rs := [7]) (by kernel_rfl) (by simp) ?_
      refine AllReadyH.cons rfl (fun K hK => ?_) AllReadyH.nil
      rw [if_pos (by rfl)]
      (try simp only [List.getElem_toArray, List.getElem_cons_zero, List.getElem_cons_succ])
      refine wp_storeR _ _ rfl nb rfl (v0 := .int .i64 (N : Int)) (v1 := .slice a6 (phiN N) k6) rfl rfl rfl (st.box 0 (nb, [.int .i64 0, .slice none 0 0]) rfl) ?_
      intro w9 x9 f9
      replace st := st.headR x9 f9 (by omega) (by intro q hq; simp only [List.mem_cons, List.not_mem_nil, or_false] at hq; rcases hq with rfl | rfl <;> dsimp only <;> omega) (by intro q hq; simp only [List.mem_cons, List.not_mem_nil, or_false] at hq; rcases hq with rfl | rfl | rfl <;> dsimp only <;> omega)
      refine hK.out _ _ (st.subR (fun b hb => List.mem_cons_of_mem _ hb) (fun s hs => List.mem_cons_of_mem _ (List.mem_cons_of_mem _ hs))) (fun hHeld => ?_)
      clear x9
      clear hK K
      (try simp only [Act.put, List.getElem_toArray, List.getElem_cons_zero, List.getElem_cons_succ, List.setIfInBounds_toArray, List.set_cons_zero, List.set_cons_succ])
      refine wpAnyH_take (i := 8) (v := .slice (some ⟨g7, 0, none⟩) (phiN N) k7) rfl (by kernel_rfl) (by kernel_rfl) (by kernel_rfl) (fun _ _ _ h => h) (Or.inl ⟨by rfl, ?_⟩) hHeld ?_
      · intro wy hy; go_simp
      (try simp only [Act.put, List.getElem_toArray, List.getElem_cons_zero, List.getElem_cons_succ, List.setIfInBounds_toArray, List.set_cons_zero, List.set_cons_succ])
      refine wpAnyH_done (by kernel_rfl) ?_ _
      go_wp2_with fail
      go_meet
      exact ⟨nb, _, _, a6, k6, _, _, g7, k7, rfl, rfl, ⟨by omega, by omega, by omega, by omega, by omega, by omega⟩, st⟩
  case rest =>
    obtain ⟨nb, lo1, hi1, a1, k1, lo2, hi2, g2, k2, rfl, rfl, hap, st2⟩ := hcut
    clear st
    have st := st2
    clear st2
    have hp0 := phi_pos40 N (by omega) (by omega)
    have q1 := st.sl 1 ⟨true, lo1, hi1, .slice a1 (phiN N) k1, phiN N, fun _ => 0⟩ rfl
    dsimp only at q1
    obtain ⟨g1, o1, c1', hv1, hg1, hg1', _⟩ := q1.at (by omega)
    obtain ⟨rfl, rfl⟩ : a1 = some ⟨g1, o1, none⟩ ∧ k1 = c1' := by cases hv1; exact ⟨rfl, rfl⟩
    clear hv1 q1
    have qa := st.sl 2 ⟨o, lo, hi, .slice a n cap, n, f⟩ rfl
    dsimp only at qa
    obtain ⟨b, off, c2', hv2, _⟩ := qa.at (by have := HN.out; omega)
    obtain ⟨rfl, rfl⟩ : a = some ⟨b, off, none⟩ ∧ cap = c2' := by cases hv2; exact ⟨rfl, rfl⟩
    clear hv2 qa
    replace st := st.subR (bs' := [(nb, [.int .i64 (N : Int), .slice (some ⟨g1, o1, none⟩) (phiN N) k1]), (w1.heap.size, [.int .i64 0, .slice none 0 0]), (w.heap.size, [.int .i64 (N : Int), .slice (some ⟨b, off, none⟩) n cap])]) (ss' := [⟨true, lo1, hi1, .slice (some ⟨g1, o1, none⟩) (phiN N) k1, phiN N, fun _ => 0⟩, ⟨true, lo2, hi2, .slice (some ⟨g2, 0, none⟩) (phiN N) k2, phiN N, fun k => (res N k : Int)⟩, ⟨o, lo, hi, .slice (some ⟨b, off, none⟩) n cap, n, f⟩]) (fun _ h => h) (by intro q hq; simp only [List.mem_cons, List.not_mem_nil, or_false] at hq ⊢; rcases hq with rfl | rfl | rfl <;> simp)
    have HAP := Lib.hid hap
    clear hap
    go_wp2_with fail
    go_loopw [6] (fun s6 wr => ∃ k : Nat, k ≤ phiN N ∧ s6 = .int .i64 (k : Int) ∧ St w wr [(nb, [.int .i64 (N : Int), .slice (some ⟨g1, o1, none⟩) (phiN N) k1]), (w1.heap.size, [.int .i64 0, .slice none 0 0]), (w.heap.size, [.int .i64 (N : Int), .slice (some ⟨b, off, none⟩) n cap])] [⟨true, lo1, hi1, .slice (some ⟨g1, o1, none⟩) (phiN N) k1, phiN N, fun j => if j < k then f (ivR N j) else 0⟩, ⟨true, lo2, hi2, .slice (some ⟨g2, 0, none⟩) (phiN N) k2, phiN N, fun k => (res N k : Int)⟩, ⟨o, lo, hi, .slice (some ⟨b, off, none⟩) n cap, n, f⟩]) (fun s6 _ => phiN N - (intOf s6).toNat)
    case atStart =>
      refine ⟨0, by omega, rfl, ?_⟩
      refine (st.subR (bs' := [(nb, [.int .i64 (N : Int), .slice (some ⟨g1, o1, none⟩) (phiN N) k1]), (w1.heap.size, [.int .i64 0, .slice none 0 0]), (w.heap.size, [.int .i64 (N : Int), .slice (some ⟨b, off, none⟩) n cap])]) (ss' := [⟨true, lo2, hi2, .slice (some ⟨g2, 0, none⟩) (phiN N) k2, phiN N, fun k => (res N k : Int)⟩, ⟨o, lo, hi, .slice (some ⟨b, off, none⟩) n cap, n, f⟩]) (fun _ h => h) (fun _ h => List.mem_cons_of_mem _ h)).addSl ⟨true, lo1, hi1, .slice (some ⟨g1, o1, none⟩) (phiN N) k1, phiN N, fun j => if j < 0 then f (ivR N j) else 0⟩ ((st.sl 0 ⟨true, lo1, hi1, .slice (some ⟨g1, o1, none⟩) (phiN N) k1, phiN N, fun _ => 0⟩ rfl).congr (fun j hj => by dsimp only; rw [if_neg (by omega)]))
    case round =>
      clear st
      obtain ⟨k, hk, rfl, st⟩ := hrel
      by_cases hlt : k < phiN N
      · have hki : (k : Int) < (phiN N : Int) := by omega
        have hi := iv_ok (n := N) (by omega) h2 hlt
        have HII := Lib.hid (iv_iv (n := N) (by omega) h2 hlt)
        have HINV := Lib.hid (show ∀ w' : World, Calls Try.prog 114 #[.int .i64 (N : Int), .int .i64 (res N k : Int)] w' fun e w'' => e = .returned (.int .i64 (invR N (res N k) : Int)) ∧ Below w'.heap.size w' w'' from fun w' => (l10Inverse_any N k h2 h40 hlt w').mono fun _ _ ⟨he, m, hw⟩ => ⟨he, hw ▸ below_drewN (Below.refl _ _) m⟩)
        rw [← hi.2] at HINV
        have HPL := Lib.hid (fun (w' : World) (hs : Sl true w' lo2 hi2 (.slice (some ⟨g2, 0, none⟩) (phiN N) k2) (phiN N) (fun k => (res N k : Int))) => l10Place_any N (ivR N k) h2 h40 hi.1 w' hs)
        have hiv := hi.1
        have HRL := Lib.hid (res_lt40 (n := N) (by omega) h2 hi.1).2.1
        have HRK := Lib.hid (res_lt40 (n := N) (by omega) h2 hlt).2.1
        have HIV := Lib.hid (fun j (hj : j < phiN N) => iv_iv (n := N) (by omega) h2 hj)
        have HIB := Lib.hid (fun j (hj : j < phiN N) => (iv_ok (n := N) (by omega) h2 hj).1)
        clear hi
        obtain ⟨p, hpv⟩ : ∃ p, ivR N k = p := ⟨_, rfl⟩
        rw [hpv] at HINV HPL hiv HRL HII
        have HPV := Lib.hid hpv
        clear hpv
        obtain ⟨r, hrv⟩ : ∃ r, res N k = r := ⟨_, rfl⟩
        rw [hrv] at HINV HRK
        have HRV := Lib.hid hrv
        clear hrv
        have hpi : (p : Int) < (phiN N : Int) := by omega
        have hpn : (p : Int) < (n : Int) := by have := HN.out; omega
        go_wp2_with fail
        replace st := st.drew
        refine wp_region_held_drew (S := fun wy => St w wy [(nb, [.int .i64 (N : Int), .slice (some ⟨g1, o1, none⟩) (phiN N) k1]), (w1.heap.size, [.int .i64 0, .slice none 0 0]), (w.heap.size, [.int .i64 (N : Int), .slice (some ⟨b, off, none⟩) n cap])] [⟨true, lo2, hi2, .slice (some ⟨g2, 0, none⟩) (phiN N) k2, phiN N, fun k => (res N k : Int)⟩, ⟨o, lo, hi, .slice (some ⟨b, off, none⟩) n cap, n, f⟩]) (by kernel_rfl) (st.subR (fun _ h => h) (fun _ h => List.mem_cons_of_mem _ h)) (fun hHeld => ?_)
        refine wpAnyH_take (i := 0) (v := .pointer (some ⟨nb, 1, none⟩)) rfl (by kernel_rfl) (by kernel_rfl) (by kernel_rfl) (fun _ _ _ h => h) (Or.inl ⟨by rfl, ?_⟩) hHeld ?_
        · intro wy hy; go_simp
        (try simp only [Act.put, List.getElem_toArray, List.getElem_cons_zero, List.getElem_cons_succ, List.setIfInBounds_toArray, List.set_cons_zero, List.set_cons_succ])
        refine wpAnyH_take (i := 1) (v := .slice (some ⟨g1, o1, none⟩) (phiN N) k1) rfl (by kernel_rfl) (by kernel_rfl) (by kernel_rfl) (fun _ _ _ h => h) (Or.inl ⟨by rfl, ?_⟩) hHeld ?_
        · intro wy hy; obtain ⟨c0, c1⟩ := (hy.box 0 (nb, [.int .i64 (N : Int), .slice (some ⟨g1, o1, none⟩) (phiN N) k1]) rfl).cell2; go_simp
        (try simp only [Act.put, List.getElem_toArray, List.getElem_cons_zero, List.getElem_cons_succ, List.setIfInBounds_toArray, List.set_cons_zero, List.set_cons_succ])
        refine wpAnyH_take (i := 2) (v := .int .i64 (k : Int)) rfl (by kernel_rfl) (by kernel_rfl) (by kernel_rfl) (fun _ _ _ h => h) (Or.inl ⟨by rfl, ?_⟩) hHeld ?_
        · intro wy hy; go_simp
        (try simp only [Act.put, List.getElem_toArray, List.getElem_cons_zero, List.getElem_cons_succ, List.setIfInBounds_toArray, List.set_cons_zero, List.set_cons_succ])
        refine wpAnyH_take (i := 3) (v := .pointer (some ⟨w.heap.size, 1, none⟩)) rfl (by kernel_rfl) (by kernel_rfl) (by kernel_rfl) (fun _ _ _ h => h) (Or.inl ⟨by rfl, ?_⟩) hHeld ?_
        · intro wy hy; go_simp
        (try simp only [Act.put, List.getElem_toArray, List.getElem_cons_zero, List.getElem_cons_succ, List.setIfInBounds_toArray, List.set_cons_zero, List.set_cons_succ])
        refine wpAnyH_take (i := 4) (v := .slice (some ⟨b, off, none⟩) n cap) rfl (by kernel_rfl) (by kernel_rfl) (by kernel_rfl) (fun _ _ _ h => h) (Or.inl ⟨by rfl, ?_⟩) hHeld ?_
        · intro wy hy; obtain ⟨c0, c1⟩ := (hy.box 2 (w.heap.size, [.int .i64 (N : Int), .slice (some ⟨b, off, none⟩) n cap]) rfl).cell2; go_simp
        (try simp only [Act.put, List.getElem_toArray, List.getElem_cons_zero, List.getElem_cons_succ, List.setIfInBounds_toArray, List.set_cons_zero, List.set_cons_succ])
        refine wpAnyH_take (i := 5) (v := .slice (some ⟨g2, 0, none⟩) (phiN N) k2) rfl (by kernel_rfl) (by kernel_rfl) (by kernel_rfl) (fun _ _ _ h => h) (Or.inl ⟨by rfl, ?_⟩) hHeld ?_
        · intro wy hy; go_simp
        (try simp only [Act.put, List.getElem_toArray, List.getElem_cons_zero, List.getElem_cons_succ, List.setIfInBounds_toArray, List.set_cons_zero, List.set_cons_succ])
        refine wpAnyH_take (i := 6) (v := .pointer (some ⟨w.heap.size, 0, none⟩)) rfl (by kernel_rfl) (by kernel_rfl) (by kernel_rfl) (fun _ _ _ h => h) (Or.inl ⟨by rfl, ?_⟩) hHeld ?_
        · intro wy hy; go_simp
        (try simp only [Act.put, List.getElem_toArray, List.getElem_cons_zero, List.getElem_cons_succ, List.setIfInBounds_toArray, List.set_cons_zero, List.set_cons_succ])
        refine wpAnyH_take (i := 7) (v := .int .i64 (N : Int)) rfl (by kernel_rfl) (by kernel_rfl) (by kernel_rfl) (fun _ _ _ h => h) (Or.inl ⟨by rfl, ?_⟩) hHeld ?_
        · intro wy hy; obtain ⟨c0, c1⟩ := (hy.box 2 (w.heap.size, [.int .i64 (N : Int), .slice (some ⟨b, off, none⟩) n cap]) rfl).cell2; go_simp
        (try simp only [Act.put, List.getElem_toArray, List.getElem_cons_zero, List.getElem_cons_succ, List.setIfInBounds_toArray, List.set_cons_zero, List.set_cons_succ])
        refine wpAnyH_take (i := 8) (v := .slice (some ⟨g2, 0, none⟩) (phiN N) k2) rfl (by kernel_rfl) (by kernel_rfl) (by kernel_rfl) (fun _ _ _ h => h) (Or.inl ⟨by rfl, ?_⟩) hHeld ?_
        · intro wy hy; go_simp
        (try simp only [Act.put, List.getElem_toArray, List.getElem_cons_zero, List.getElem_cons_succ, List.setIfInBounds_toArray, List.set_cons_zero, List.set_cons_succ])
        refine wpAnyH_take (i := 9) (v := .int .i64 (k : Int)) rfl (by kernel_rfl) (by kernel_rfl) (by kernel_rfl) (fun _ _ _ h => h) (Or.inl ⟨by rfl, ?_⟩) hHeld ?_
        · intro wy hy; go_simp
        (try simp only [Act.put, List.getElem_toArray, List.getElem_cons_zero, List.getElem_cons_succ, List.setIfInBounds_toArray, List.set_cons_zero, List.set_cons_succ])
        refine wpAnyH_take (i := 10) (v := .pointer (some ⟨g2, k, none⟩)) rfl (by kernel_rfl) (by kernel_rfl) (by kernel_rfl) (fun _ _ _ h => h) (Or.inl ⟨by rfl, ?_⟩) hHeld ?_
        · intro wy hy; go_simp
        (try simp only [Act.put, List.getElem_toArray, List.getElem_cons_zero, List.getElem_cons_succ, List.setIfInBounds_toArray, List.set_cons_zero, List.set_cons_succ])
        refine wpAnyH_take (i := 11) (v := .int .i64 (r : Int)) rfl (by kernel_rfl) (by kernel_rfl) (by kernel_rfl) (fun _ _ _ h => h) (Or.inl ⟨by rfl, ?_⟩) hHeld ?_
        · intro wy hy; have hc := (hy.sl 0 ⟨true, lo2, hi2, .slice (some ⟨g2, 0, none⟩) (phiN N) k2, phiN N, fun k => (res N k : Int)⟩ rfl).known (by show 0 < phiN N; omega); replace hc := hc.2.2.2.1 k hlt; (try dsimp only at hc); rw [Nat.zero_add, HRV.out] at hc; go_simp
        (try simp only [Act.put, List.getElem_toArray, List.getElem_cons_zero, List.getElem_cons_succ, List.setIfInBounds_toArray, List.set_cons_zero, List.set_cons_succ])
        refine wpAnyH_ready (rs := [12]) (by kernel_rfl) (by simp) ?_
        refine AllReadyH.cons rfl (fun K hK => ?_) AllReadyH.nil
        rw [if_pos (by rfl)]
        (try simp only [List.getElem_toArray, List.getElem_cons_zero, List.getElem_cons_succ])
        go_simp
        go_at_call 114
        refine (HINV.out _).mono ?_
        rintro e w6 ⟨rfl, b6⟩
        replace st := st.keep b6
        refine hK.out _ _ (hHeld.keep b6) (fun hHeld => ?_)
        clear b6
        clear hK K
        (try simp only [Act.put, List.getElem_toArray, List.getElem_cons_zero, List.getElem_cons_succ, List.setIfInBounds_toArray, List.set_cons_zero, List.set_cons_succ])
        refine wpAnyH_ready (rs := [13]) (by kernel_rfl) (by simp) ?_
        refine AllReadyH.cons rfl (fun K hK => ?_) AllReadyH.nil
        rw [if_pos (by rfl)]
        (try simp only [List.getElem_toArray, List.getElem_cons_zero, List.getElem_cons_succ])
        go_simp
        go_at_call 113
        refine (HPL.out _ (hHeld.sl 0 ⟨true, lo2, hi2, .slice (some ⟨g2, 0, none⟩) (phiN N) k2, phiN N, fun k => (res N k : Int)⟩ rfl)).mono ?_
        rintro e w7 ⟨rfl, rfl⟩
        refine hK.out _ _ hHeld (fun hHeld => ?_)
        clear hK K
        (try simp only [Act.put, List.getElem_toArray, List.getElem_cons_zero, List.getElem_cons_succ, List.setIfInBounds_toArray, List.set_cons_zero, List.set_cons_succ])
        refine wpAnyH_take (i := 14) (v := .pointer (some ⟨b, off + p, none⟩)) rfl (by kernel_rfl) (by kernel_rfl) (by kernel_rfl) (fun _ _ _ h => h) (Or.inl ⟨by rfl, ?_⟩) hHeld ?_
        · intro wy hy; go_simp
        (try simp only [Act.put, List.getElem_toArray, List.getElem_cons_zero, List.getElem_cons_succ, List.setIfInBounds_toArray, List.set_cons_zero, List.set_cons_succ])
        refine wpAnyH_take (i := 15) (v := .int .i64 (f p)) rfl (by kernel_rfl) (by kernel_rfl) (by kernel_rfl) (fun _ _ _ h => h) (Or.inl ⟨by rfl, ?_⟩) hHeld ?_
        · intro wy hy; have hc := (hy.sl 1 ⟨o, lo, hi, .slice (some ⟨b, off, none⟩) n cap, n, f⟩ rfl).known (by show 0 < n; omega); replace hc := hc.2.2.2.1 p (by have := HN.out; omega); (try dsimp only at hc); go_simp
        (try simp only [Act.put, List.getElem_toArray, List.getElem_cons_zero, List.getElem_cons_succ, List.setIfInBounds_toArray, List.set_cons_zero, List.set_cons_succ])
        refine wpAnyH_take (i := 16) (v := .pointer (some ⟨g1, o1 + k, none⟩)) rfl (by kernel_rfl) (by kernel_rfl) (by kernel_rfl) (fun _ _ _ h => h) (Or.inl ⟨by rfl, ?_⟩) hHeld ?_
        · intro wy hy; go_simp
        (try simp only [Act.put, List.getElem_toArray, List.getElem_cons_zero, List.getElem_cons_succ, List.setIfInBounds_toArray, List.set_cons_zero, List.set_cons_succ])
        refine wpAnyH_ready (rs := [17]) (by kernel_rfl) (by simp) ?_
        refine AllReadyH.cons rfl (fun K hK => ?_) AllReadyH.nil
        rw [if_pos (by rfl)]
        (try simp only [List.getElem_toArray, List.getElem_cons_zero, List.getElem_cons_succ])
        have hc := (st.sl 0 ⟨true, lo1, hi1, .slice (some ⟨g1, o1, none⟩) (phiN N) k1, phiN N, fun j => if j < k then f (ivR N j) else 0⟩ rfl).known (by show 0 < phiN N; omega)
        have hfz := hc.2.2.2.2 rfl
        replace hc := hc.2.2.2.1 k (by omega)
        dsimp only at hc hfz
        go_simp
        refine hK.out _ _ ?_ (fun hHeld => ?_)
        · have ⟨p0, p1, p2, p3, p4, p5⟩ := HAP.out
          exact hHeld.write ((Frame.refl lo1 hi1 _).setCell (p := ⟨g1, o1 + k, none⟩) hg1 hg1' (.int .i64 (f p))) (by omega) (by intro q hq; simp only [List.mem_cons, List.not_mem_nil, or_false] at hq; rcases hq with rfl | rfl | rfl <;> dsimp only <;> omega) (by intro q hq; simp only [List.mem_cons, List.not_mem_nil, or_false] at hq; rcases hq with rfl | rfl <;> dsimp only <;> omega)
        clear hK K
        (try simp only [Act.put, List.getElem_toArray, List.getElem_cons_zero, List.getElem_cons_succ, List.setIfInBounds_toArray, List.set_cons_zero, List.set_cons_succ])
        refine wpAnyH_done (by kernel_rfl) ?_ _
        go_wp2
        go_roundw
        case rel =>
          refine ⟨k + 1, by omega, by go_num, ?_⟩
          have q := st.sl 0 ⟨true, lo1, hi1, .slice (some ⟨g1, o1, none⟩) (phiN N) k1, phiN N, fun j => if j < k then f (ivR N j) else 0⟩ rfl
          dsimp only at q
          have qs := q.store (i := k) (x := f p) (by omega) (by have := HFB.out p (by have := HN.out; omega); unfold inR; omega)
          have hap := HAP.out
          have ⟨p0, p1, p2, p3, p4, p5⟩ := hap
          refine (((st.subR (bs' := [(nb, [.int .i64 (N : Int), .slice (some ⟨g1, o1, none⟩) (phiN N) k1]), (w1.heap.size, [.int .i64 0, .slice none 0 0]), (w.heap.size, [.int .i64 (N : Int), .slice (some ⟨b, off, none⟩) n cap])]) (ss' := [⟨true, lo2, hi2, .slice (some ⟨g2, 0, none⟩) (phiN N) k2, phiN N, fun k => (res N k : Int)⟩, ⟨o, lo, hi, .slice (some ⟨b, off, none⟩) n cap, n, f⟩]) (fun _ h => h) (fun _ h => List.mem_cons_of_mem _ h)).write ((Frame.refl lo1 hi1 _).setCell (p := ⟨g1, o1 + k, none⟩) hg1 hg1' (.int .i64 (f p))) (by omega) (by intro q hq; simp only [List.mem_cons, List.not_mem_nil, or_false] at hq; rcases hq with rfl | rfl | rfl <;> dsimp only <;> omega) (by intro q hq; simp only [List.mem_cons, List.not_mem_nil, or_false] at hq; rcases hq with rfl | rfl <;> dsimp only <;> omega))).addSl ⟨true, lo1, hi1, .slice (some ⟨g1, o1, none⟩) (phiN N) k1, phiN N, fun j => if j < (k + 1) then f (ivR N j) else 0⟩ (qs.congr (fun j hj => by
            dsimp only
            by_cases e : j = k
            · subst e; rw [if_pos rfl, if_pos (by omega), HPV.out]
            · rw [if_neg e]; by_cases e2 : j < k
              · rw [if_pos e2, if_pos (by omega)]
              · rw [if_neg e2, if_neg (by omega)]))
        case measure => simp [intOf] <;> omega
      · obtain rfl : k = phiN N := by omega
        have BR := st.box 1 (w1.heap.size, [.int .i64 0, .slice none 0 0]) rfl
        obtain ⟨c0, c1⟩ := (st.box 0 (nb, [.int .i64 (N : Int), .slice (some ⟨g1, o1, none⟩) (phiN N) k1]) rfl).cell2
        dsimp only at BR c0 c1
        have q := st.sl 0 ⟨true, lo1, hi1, .slice (some ⟨g1, o1, none⟩) (phiN N) k1, phiN N, fun j => if j < (phiN N) then f (ivR N j) else 0⟩ rfl
        dsimp only at q
        have ⟨p0, p1, p2, p3, p4, p5⟩ := HAP.out
        go_wp2_with (first
          | (refine wpList_storeR rfl _ _ rfl w1.heap.size rfl (v0 := .int .i64 (N : Int)) (v1 := .slice (some ⟨g1, o1, none⟩) (phiN N) k1) rfl rfl rfl BR ?_; intro w9 x9 f9
             obtain ⟨d0, d1⟩ := x9.cell2))
        refine bodyPost_ret (v := .tuple #[.agg #[.int .i64 (N : Int), .slice (some ⟨g1, o1, none⟩) (phiN N) k1], .int .i64 0]) (by simp [results, Try.results35, go_sem, d0, d1]) rfl ?_
        rw [HN.out]
        refine ⟨some ⟨g1, o1, none⟩, k1, rfl, ?_, ?_⟩
        · refine (((q.congr (fun j hj => by (try dsimp only); rw [if_pos hj])).keepF f9 (.inr (by omega))).wide (by omega) ?_ (Nat.le_refl _))
          have := q.size
          have := f9.size
          omega
        · exact st.1.trans (f9.below (by omega) st.1.size)
end
end Go.Proofs.Ytnhpodlcgkgpbaa
