/- valuesOf of the program: the values of a character as a function. -/
import Derived.RangeFuncNested
import Derived.RangeFuncBound
import Derived.RangeFuncCalls
import Derived.RangeFuncLeaves
import Derived.Shelf.Abstract
import Derived.Shelf.RegionOpen
import Derived.WalkKit
import Derived.OwnWalkIn
import Derived.TacticsInMore
import Derived.LoopNIn
import Derived.LoopIn
import Derived.RegionIn
import Derived.Test.YtopapdahpeemfaaDoorSeqG
import Derived.Test.YtopapdahpeemfaaDoorRound
import Derived.Test.YtopapdahpeemfaaDoorInvC
import Derived.Test.YtopapdahpeemfaaDoorArr
namespace Go.Proofs.YtopapdahpeemfaaDoor
open Go.RowKit Go.ChangeShapes Go.Shelf
set_option linter.unusedVariables false
set_option linter.unusedSimpArgs false
attribute [local go_sem] Oper.semAt_some

/-- The exponents that lie when the indices of a list have come. -/
def exL (p n k : Nat) (L : List Nat) : Nat → Int := L.foldl (fun f i => fun y => if y = pwr p (rootN p) i then ((k * i % n : Nat) : Int) else f y) (fun _ => 0)
theorem exL_snoc (p n k : Nat) (L : List Nat) (i : Nat) : exL p n k (L ++ [i]) = fun y => if y = pwr p (rootN p) i then ((k * i % n : Nat) : Int) else exL p n k L y := by
  unfold exL; rw [List.foldl_append]; rfl
/-- The exponent at y, 0 at 0. -/
def exV (p n k : Nat) (y : Nat) : Int := if y = 0 then 0 else ((k * idxN p y % n : Nat) : Int)
theorem exL_range {p n k : Nat} (hp : primeN p = true) : ∀ m, m ≤ p - 1 → ∀ y, y < p → exL p n k (List.range m) y = if 1 ≤ y ∧ idxN p y < m then ((k * idxN p y % n : Nat) : Int) else 0
  | 0, _, y, hy => by rw [if_neg (by omega)]; rfl
  | m + 1, hm, y, hy => by
    obtain ⟨b1, b2, b3⟩ := back_ok (p := p) (j := m) hp (by omega)
    rw [List.range_succ, exL_snoc]
    dsimp only
    rw [exL_range hp m (by omega) y hy]
    by_cases e : y = pwr p (rootN p) m
    · have hi : idxN p y = m := by rw [e, b3]
      rw [if_pos e, if_pos ⟨by omega, by omega⟩, hi]
    · rw [if_neg e]
      by_cases h1 : 1 ≤ y
      · have hne : idxN p y ≠ m := fun h => e (by rw [← h]; exact (idx_ok hp h1 hy).2.1.symm)
        by_cases h2 : idxN p y < m
        · rw [if_pos ⟨h1, h2⟩, if_pos ⟨h1, by omega⟩]
        · rw [if_neg (fun h => h2 h.2), if_neg (fun h => by omega)]
      · rw [if_neg (fun h => h1 h.1), if_neg (fun h => h1 h.1)]
theorem exL_all {p n k : Nat} (hp : primeN p = true) (y : Nat) (hy : y < p) : exL p n k (List.range (p - 1)) y = exV p n k y := by
  rw [exL_range hp (p - 1) (Nat.le_refl _) y hy]
  unfold exV
  by_cases h : y = 0
  · rw [if_pos h, if_neg (by omega)]
  · rw [if_neg h, if_pos ⟨by omega, (idx_ok hp (by omega) hy).1⟩]
theorem exV_bd {p n k y : Nat} (h1 : 1 ≤ n) : 0 ≤ exV p n k y ∧ exV p n k y < n := by
  unfold exV
  split
  · omega
  · have := Nat.mod_lt (k * idxN p y) (show 0 < n by omega); omega

set_option maxRecDepth 100000 in
set_option maxHeartbeats 4000000 in
theorem valuesOf_any (p n k : Nat) (hp : primeN p = true) (hn1 : 1 ≤ n) (hn2 : n ≤ 16) (hk : k ≤ 16) (w : World) :
    Calls Tryd.prog 32 #[.agg #[.int .i64 (p : Int), .int .i64 (n : Int), .int .i64 (k : Int)]] w fun e w' => e = .returned (.func (.func 34) #[] #[.pointer (some ⟨w.heap.size, 0, none⟩), .pointer (some ⟨w.heap.size + 1 + 1, 0, none⟩)]) ∧ Below w.heap.size w w' ∧ w.heap.size + 1 + 1 + 1 ≤ w'.heap.size ∧
      Box w' w.heap.size [.int .i64 (p : Int), .int .i64 (n : Int), .int .i64 (k : Int)] ∧ Box w' (w.heap.size + 1 + 1) [.slice (some ⟨w.heap.size + 1, 0, none⟩) p p] ∧ Sl true w' (w.heap.size + 1) (w.heap.size + 1 + 1) (.slice (some ⟨w.heap.size + 1, 0, none⟩) p p) p (exV p n k) := by
  have hb := primeN_bd hp
  have HR := Lib.hid (root_ok hp)
  obtain ⟨m, hm⟩ : ∃ m, p - 1 = m := ⟨_, rfl⟩
  have HM := Lib.hid hm
  have HP := Lib.hid hp
  have HB := Lib.hid (fun j => back_ok (p := p) (j := j) hp)
  have hm60 : m ≤ 60 := by omega
  clear hp hm
  have hmf : ∀ (fn : Fn) (first cap : Array Value) (w : World), (Instr.makeFunc fn first cap).run Tryd.prog w = .ok (.func fn first cap) w := fun _ _ _ _ => rfl
  have hmk := run_make_row' (P := Tryd.prog) 22 2 (.int .i64 0) 8 Tryd.underlying22 Tryd.info2 rfl .i64 .i64 p (by omega) (by omega)
  have st0 := (((St.start w).alloc (.cells #[.int .i64 (p : Int), .int .i64 (n : Int), .int .i64 (k : Int)] 63)).addBox w.heap.size [.int .i64 (p : Int), .int .i64 (n : Int), .int .i64 (k : Int)] (Box.made _ _ _ _ (fun j v h => by simpa using h)))
  have q0 := Sl.made (w.alloc (.cells #[.int .i64 (p : Int), .int .i64 (n : Int), .int .i64 (k : Int)] 63)) (madeCells #[.int .i64 0] p) 2 p p (fun _ => 0) (Nat.le_refl _) (by unfold maxLen; omega) (fun j hj => by simp [inR]) (fun j hj => by simp [madeCells_at _ _ _ hj])
  simp only [World.size_alloc] at q0
  replace st0 := (st0.alloc (.cells (madeCells #[.int .i64 0] p) 2)).addSl ⟨true, w.heap.size + 1, w.heap.size + 1 + 1, .slice (some ⟨w.heap.size + 1, 0, none⟩) p p, p, fun _ => 0⟩ q0
  replace st0 := (st0.alloc (.cells #[.slice (some ⟨w.heap.size + 1, 0, none⟩) p p] 22)).addBox _ [.slice (some ⟨w.heap.size + 1, 0, none⟩) p p] (Box.made _ _ _ _ (fun j v h => by simpa using h))
  simp only [World.size_alloc] at st0
  clear q0
  refine (callsIn_wide (n := 9)).1 ?_
  have hro : Fence.wide.round = none := rfl
  refine callsIn_of_wp_marks Tryd.func32 rfl trivial ?_ hro
  simp only [Tryd.ntmps32, List.size_toArray, List.length_cons, List.length_nil, Nat.reduceAdd, Nat.reduceSub, Array.replicate_succ, Array.replicate_zero, List.push_toArray, List.append_toArray, List.nil_append, List.cons_append]
  gi_wp2_with (first
    | (refine ⟨trivial, ?_⟩; gi_at_call 33; refine (callsIn_wide.2 (residuesByIndex_any p HP.out _)).mono ?_; rintro e w2 ⟨w2, rfl, b2, rfl⟩))
  have st2 := st0.keep b2
  have hz2 := b2.size
  simp only [World.size_alloc] at hz2
  have hg := var_new w2 (.int .i64 (rootN p : Nat)) 2
  have hpp := var_new (w2.alloc (.cells #[.int .i64 (rootN p : Nat)] 2)) (.int .i64 (p : Int)) 2
  simp only [World.size_alloc] at hpp
  have st3 := (st2.alloc (.cells #[.int .i64 (rootN p : Nat)] 2)).alloc (.cells #[.int .i64 (p : Int)] 2)
  have c3 := var_cell (.cells #[.int .i64 (p : Int)] 2) hg.1
  clear st0 st2 b2 hmk
  obtain ⟨W0, hW0⟩ : ∃ W0, (w2.alloc (.cells #[.int .i64 (rootN p : Nat)] 2)).alloc (.cells #[.int .i64 (p : Int)] 2) = W0 := ⟨_, rfl⟩
  have hsz : W0.heap.size = w2.heap.size + 1 + 1 := by rw [← hW0]; simp
  rw [hW0] at st3 c3 hpp ⊢
  have bx0 := st3.box 1 (w.heap.size, [.int .i64 (p : Int), .int .i64 (n : Int), .int .i64 (k : Int)]) rfl
  have bx1 := st3.box 0 (w.heap.size + 1 + 1, [.slice (some ⟨w.heap.size + 1, 0, none⟩) p p]) rfl
  have sl0 := st3.sl 0 ⟨true, w.heap.size + 1, w.heap.size + 1 + 1, .slice (some ⟨w.heap.size + 1, 0, none⟩) p p, p, fun _ => 0⟩ rfl
  dsimp only at bx0 bx1 sl0
  have hB0 := st3.1
  clear st3 hW0
  refine wpIn_rangeFunc_ownF hro (by omega) (gf := 37) (lb := #[.pointer (some ⟨w2.heap.size, 0, none⟩), .pointer (some ⟨w2.heap.size + 1, 0, none⟩)]) rfl trivial (enters_of Tryd.func37 (by kernel_rfl) rfl)
    (pow_stops p (rootN p) m HP.out HR.out.1 HR.out.2.1 (HR.out.2.2.1.trans HM.out) Fence.wide (9 - 1) trivial rfl (by omega) w2.heap.size (w2.heap.size + 1) W0 c3 hpp.1) (fun h k => h.trans k) (Keeps2.at (by omega) (by omega)) (Below.refl _ _) (fun _ => rfl)
    (fun pre W => (Box W w.heap.size [.int .i64 (p : Int), .int .i64 (n : Int), .int .i64 (k : Int)] ∧ Box W (w.heap.size + 1 + 1) [.slice (some ⟨w.heap.size + 1, 0, none⟩) p p] ∧ Sl true W (w.heap.size + 1) (w.heap.size + 1 + 1) (.slice (some ⟨w.heap.size + 1, 0, none⟩) p p) p (exL p n k (pre.map Fin.val))) ∧ Below w.heap.size w W ∧ W0.heap.size ≤ W.heap.size)
    (fun _ _ _ => False)
    (fun s A B row hs hg hr => by
      obtain ⟨⟨h1, h2, h3⟩, h5, h6⟩ := hs
      have hB := grown_below hg hr h6
      exact ⟨⟨h1.keepB hB (by omega), h2.keepB hB (by omega), h3.keep hB (by omega)⟩, h5.trans (hB.mono (by omega)), Nat.le_trans h6 hg.size⟩)
    (fun _ _ _ _ _ hs _ _ => hs)
    ⟨⟨bx0, bx1, sl0⟩, hB0, Nat.le_refl _⟩
    (fun i => { tmps := #[.agg #[.int .i64 (p : Int), .int .i64 (n : Int), .int .i64 (k : Int)], .pointer (some ⟨w.heap.size, 0, none⟩), Value.nilFunc, .pointer (some ⟨w.heap.size + 1 + 1, 0, none⟩), .int .i64 (i.1 : Int), .int .i64 (pwr p (rootN p) i.1 : Nat), .pointer (some ⟨w.heap.size, 0, none⟩), .int .i64 (p : Int), .slice (some ⟨w.heap.size + 1, 0, none⟩) p p, .pointer (some ⟨w.heap.size, 0, none⟩), .int .i64 (p : Int), .func (.func 37) #[] #[.pointer (some ⟨w2.heap.size, 0, none⟩), .pointer (some ⟨w2.heap.size + 1, 0, none⟩)], .int .i64 (i.1 : Int), .int .i64 (pwr p (rootN p) i.1 : Nat), undef, undef, undef, undef, undef, undef, undef, undef, undef, undef, undef], defers := [] }) ?assign ?body ?done ?stop
  case assign =>
    intro l i W K hK
    gi_wp2
    first | exact hK | simpa [encP] using hK
  case body =>
    rintro l pre i W ⟨⟨h0, h1, h2⟩, hB, hz⟩ hlen
    obtain ⟨e0, e1, e2⟩ := h0.cell3
    have e3 := h1.2.1 0 _ rfl
    have hi := i.2
    obtain ⟨b1, b2, b3⟩ := HB.out i.1 (by have := HM.out; omega)
    have HS2 := Lib.hid h2
    have HSN := Lib.hid (exL_snoc p n k (pre.map Fin.val) i.1)
    have hc := (h2.known (by omega)).2.2.2.1 (pwr p (rootN p) i.1) b2
    have hf := (h2.known (by omega)).2.2.2.2 rfl (pwr p (rootN p) i.1)
    rw [Nat.zero_add] at hc
    clear h2 b3
    have hn0 : ¬ n = 0 := by omega
    have hki0 : 0 ≤ (k : Int) * (i.1 : Int) := Int.mul_nonneg (by omega) (by omega)
    have hki1 : (k : Int) * (i.1 : Int) ≤ 16 * 60 := Int.mul_le_mul (by omega) (by omega) (by omega) (by omega)
    have HE := Lib.hid (show (k : Int) * (i.1 : Int) % (n : Int) = ((k * i.1 % n : Nat) : Int) by rw [Int.natCast_emod, Int.natCast_mul])
    have hwm : IntKind.i64.wrap ((k : Int) * (i.1 : Int)) = (k : Int) * (i.1 : Int) := IntWalk.i64_in _ (by omega)
    have htm : ((k : Int) * (i.1 : Int)).tmod (n : Int) = (k : Int) * (i.1 : Int) % (n : Int) := Int.tmod_eq_emod_of_nonneg hki0
    have FIN := Lib.hid (show KeepsOthers W (W.setCell ⟨w.heap.size + 1, pwr p (rootN p) i.1, none⟩ (.int .i64 ((k : Int) * (i.1 : Int) % (n : Int)))).drew ∧ Keeps2 w2.heap.size (w2.heap.size + 1) W (W.setCell ⟨w.heap.size + 1, pwr p (rootN p) i.1, none⟩ (.int .i64 ((k : Int) * (i.1 : Int) % (n : Int)))).drew ∧ (Box (W.setCell ⟨w.heap.size + 1, pwr p (rootN p) i.1, none⟩ (.int .i64 ((k : Int) * (i.1 : Int) % (n : Int)))).drew w.heap.size [.int .i64 (p : Int), .int .i64 (n : Int), .int .i64 (k : Int)] ∧ Box (W.setCell ⟨w.heap.size + 1, pwr p (rootN p) i.1, none⟩ (.int .i64 ((k : Int) * (i.1 : Int) % (n : Int)))).drew (w.heap.size + 1 + 1) [.slice (some ⟨w.heap.size + 1, 0, none⟩) p p] ∧ Sl true (W.setCell ⟨w.heap.size + 1, pwr p (rootN p) i.1, none⟩ (.int .i64 ((k : Int) * (i.1 : Int) % (n : Int)))).drew (w.heap.size + 1) (w.heap.size + 1 + 1) (.slice (some ⟨w.heap.size + 1, 0, none⟩) p p) p (exL p n k ((pre ++ [i]).map Fin.val))) ∧ Below w.heap.size w (W.setCell ⟨w.heap.size + 1, pwr p (rootN p) i.1, none⟩ (.int .i64 ((k : Int) * (i.1 : Int) % (n : Int)))).drew ∧ W0.heap.size ≤ (W.setCell ⟨w.heap.size + 1, pwr p (rootN p) i.1, none⟩ (.int .i64 ((k : Int) * (i.1 : Int) % (n : Int)))).drew.heap.size from by
      refine ⟨(KeepsOthers.setCell _ _ _).trans (KeepsOthers.drew _), Keeps2.trans (Keeps2.setCell (q := ⟨w.heap.size + 1, pwr p (rootN p) i.1, none⟩) _ (by show _ ≠ w.heap.size + 1; omega) (by show _ ≠ w.heap.size + 1; omega)) ⟨rfl, rfl⟩, ⟨(h0.other _ _ (by simp)).keep ((Below.refl _ _).drew), (h1.other _ _ (by simp)).keep ((Below.refl _ _).drew), ?_⟩, (hB.setCell (p := ⟨w.heap.size + 1, pwr p (rootN p) i.1, none⟩) (by simp) _).drew, by simpa using hz⟩
      rw [List.map_append, List.map_singleton, HSN.out]
      refine ((HS2.out.store0 b2 (x := (k : Int) * (i.1 : Int) % (n : Int)) (by rw [HE.out]; have := Nat.mod_lt (k * i.1) (show 0 < n by omega); unfold inR; omega)).drew).congr (fun j hj => ?_)
      rw [HE.out])
    have hmx : Tryd.prog.follows .mixedOrders = true := by kernel_rfl
    gi_wp2
    refine wpIn_region_round hmx (by kernel_rfl) ?_
    refine wpAnyIn_take (i := 1) (v := .int .i64 (pwr p (rootN p) i.1 : Nat)) rfl rfl (by kernel_rfl) (by kernel_rfl) (by kernel_rfl) (fun _ _ _ h => h) ⟨Or.inl ⟨by rfl, by intro w; go_simp⟩, fun _ => rfl⟩ ?_
    refine wpAnyIn_take (i := 2) (v := .pointer (some ⟨w.heap.size, 2, none⟩)) rfl rfl (by kernel_rfl) (by kernel_rfl) (by kernel_rfl) (fun _ _ _ h => h) ⟨Or.inl ⟨by rfl, by intro w; go_simp⟩, fun _ => rfl⟩ ?_
    refine wpAnyIn_take (i := 4) (v := .int .i64 (i.1 : Int)) rfl rfl (by kernel_rfl) (by kernel_rfl) (by kernel_rfl) (fun _ _ _ h => h) ⟨Or.inl ⟨by rfl, by intro w; go_simp⟩, fun _ => rfl⟩ ?_
    refine wpAnyIn_take (i := 6) (v := .pointer (some ⟨w.heap.size, 1, none⟩)) rfl rfl (by kernel_rfl) (by kernel_rfl) (by kernel_rfl) (fun _ _ _ h => h) ⟨Or.inl ⟨by rfl, by intro w; go_simp⟩, fun _ => rfl⟩ ?_
    refine wpAnyIn_ready (rs := [0, 3, 7]) (by kernel_rfl) (by simp) ?_
    refine AllReadyIn.cons rfl (fun K hK => ?_) ?_
    · go_simp
      refine hK _ _ ?_
      clear hK K
      refine wpAnyIn_ready (rs := [3, 7]) (by kernel_rfl) (by simp) ?_
      refine AllReadyIn.cons rfl (fun K hK => ?_) ?_
      · go_simp
        refine hK _ _ ?_
        clear hK K
        refine wpAnyIn_take (i := 5) (v := .int .i64 ((k : Int) * (i.1 : Int))) rfl rfl (by kernel_rfl) (by kernel_rfl) (by kernel_rfl) (fun _ _ _ h => h) ⟨Or.inl ⟨by rfl, by intro w; go_simp⟩, fun _ => rfl⟩ ?_
        refine wpAnyIn_ready (rs := [7]) (by kernel_rfl) (by simp) ?_
        refine AllReadyIn.cons rfl (fun K hK => ?_) ?_
        · go_simp
          refine hK _ _ ?_
          clear hK K
          refine wpAnyIn_take (i := 8) (v := .int .i64 ((k : Int) * (i.1 : Int) % (n : Int))) rfl rfl (by kernel_rfl) (by kernel_rfl) (by kernel_rfl) (fun _ _ _ h => h) ⟨Or.inl ⟨by rfl, by intro w; go_simp⟩, fun _ => rfl⟩ ?_
          refine wpAnyIn_take (i := 9) (v := .pointer (some ⟨w.heap.size + 1, pwr p (rootN p) i.1, none⟩)) rfl rfl (by kernel_rfl) (by kernel_rfl) (by kernel_rfl) (fun _ _ _ h => h) ⟨Or.inl ⟨by rfl, by intro w; go_simp⟩, fun _ => rfl⟩ ?_
          refine wpAnyIn_ready (rs := [10]) (by kernel_rfl) (by simp) ?_
          refine AllReadyIn.cons rfl (fun K hK => ?_) ?_
          · go_simp
            refine hK _ _ ?_
            clear hK K
            refine wpAnyIn_done (by kernel_rfl) ?_ _
            gi_wp2
            exact FIN.out
          exact AllReadyIn.nil
        exact AllReadyIn.nil
      refine AllReadyIn.cons rfl (fun K hK => ?_) ?_
      · go_simp
        refine hK _ _ ?_
        clear hK K
        refine wpAnyIn_ready (rs := [3]) (by kernel_rfl) (by simp) ?_
        refine AllReadyIn.cons rfl (fun K hK => ?_) ?_
        · go_simp
          refine hK _ _ ?_
          clear hK K
          refine wpAnyIn_take (i := 5) (v := .int .i64 ((k : Int) * (i.1 : Int))) rfl rfl (by kernel_rfl) (by kernel_rfl) (by kernel_rfl) (fun _ _ _ h => h) ⟨Or.inl ⟨by rfl, by intro w; go_simp⟩, fun _ => rfl⟩ ?_
          refine wpAnyIn_take (i := 8) (v := .int .i64 ((k : Int) * (i.1 : Int) % (n : Int))) rfl rfl (by kernel_rfl) (by kernel_rfl) (by kernel_rfl) (fun _ _ _ h => h) ⟨Or.inl ⟨by rfl, by intro w; go_simp⟩, fun _ => rfl⟩ ?_
          refine wpAnyIn_take (i := 9) (v := .pointer (some ⟨w.heap.size + 1, pwr p (rootN p) i.1, none⟩)) rfl rfl (by kernel_rfl) (by kernel_rfl) (by kernel_rfl) (fun _ _ _ h => h) ⟨Or.inl ⟨by rfl, by intro w; go_simp⟩, fun _ => rfl⟩ ?_
          refine wpAnyIn_ready (rs := [10]) (by kernel_rfl) (by simp) ?_
          refine AllReadyIn.cons rfl (fun K hK => ?_) ?_
          · go_simp
            refine hK _ _ ?_
            clear hK K
            refine wpAnyIn_done (by kernel_rfl) ?_ _
            gi_wp2
            exact FIN.out
          exact AllReadyIn.nil
        exact AllReadyIn.nil
      exact AllReadyIn.nil
    refine AllReadyIn.cons rfl (fun K hK => ?_) ?_
    · go_simp
      refine hK _ _ ?_
      clear hK K
      refine wpAnyIn_take (i := 5) (v := .int .i64 ((k : Int) * (i.1 : Int))) rfl rfl (by kernel_rfl) (by kernel_rfl) (by kernel_rfl) (fun _ _ _ h => h) ⟨Or.inl ⟨by rfl, by intro w; go_simp⟩, fun _ => rfl⟩ ?_
      refine wpAnyIn_ready (rs := [0, 7]) (by kernel_rfl) (by simp) ?_
      refine AllReadyIn.cons rfl (fun K hK => ?_) ?_
      · go_simp
        refine hK _ _ ?_
        clear hK K
        refine wpAnyIn_ready (rs := [7]) (by kernel_rfl) (by simp) ?_
        refine AllReadyIn.cons rfl (fun K hK => ?_) ?_
        · go_simp
          refine hK _ _ ?_
          clear hK K
          refine wpAnyIn_take (i := 8) (v := .int .i64 ((k : Int) * (i.1 : Int) % (n : Int))) rfl rfl (by kernel_rfl) (by kernel_rfl) (by kernel_rfl) (fun _ _ _ h => h) ⟨Or.inl ⟨by rfl, by intro w; go_simp⟩, fun _ => rfl⟩ ?_
          refine wpAnyIn_take (i := 9) (v := .pointer (some ⟨w.heap.size + 1, pwr p (rootN p) i.1, none⟩)) rfl rfl (by kernel_rfl) (by kernel_rfl) (by kernel_rfl) (fun _ _ _ h => h) ⟨Or.inl ⟨by rfl, by intro w; go_simp⟩, fun _ => rfl⟩ ?_
          refine wpAnyIn_ready (rs := [10]) (by kernel_rfl) (by simp) ?_
          refine AllReadyIn.cons rfl (fun K hK => ?_) ?_
          · go_simp
            refine hK _ _ ?_
            clear hK K
            refine wpAnyIn_done (by kernel_rfl) ?_ _
            gi_wp2
            exact FIN.out
          exact AllReadyIn.nil
        exact AllReadyIn.nil
      refine AllReadyIn.cons rfl (fun K hK => ?_) ?_
      · go_simp
        refine hK _ _ ?_
        clear hK K
        refine wpAnyIn_take (i := 8) (v := .int .i64 ((k : Int) * (i.1 : Int) % (n : Int))) rfl rfl (by kernel_rfl) (by kernel_rfl) (by kernel_rfl) (fun _ _ _ h => h) ⟨Or.inl ⟨by rfl, by intro w; go_simp⟩, fun _ => rfl⟩ ?_
        refine wpAnyIn_ready (rs := [0]) (by kernel_rfl) (by simp) ?_
        refine AllReadyIn.cons rfl (fun K hK => ?_) ?_
        · go_simp
          refine hK _ _ ?_
          clear hK K
          refine wpAnyIn_take (i := 9) (v := .pointer (some ⟨w.heap.size + 1, pwr p (rootN p) i.1, none⟩)) rfl rfl (by kernel_rfl) (by kernel_rfl) (by kernel_rfl) (fun _ _ _ h => h) ⟨Or.inl ⟨by rfl, by intro w; go_simp⟩, fun _ => rfl⟩ ?_
          refine wpAnyIn_ready (rs := [10]) (by kernel_rfl) (by simp) ?_
          refine AllReadyIn.cons rfl (fun K hK => ?_) ?_
          · go_simp
            refine hK _ _ ?_
            clear hK K
            refine wpAnyIn_done (by kernel_rfl) ?_ _
            gi_wp2
            exact FIN.out
          exact AllReadyIn.nil
        exact AllReadyIn.nil
      exact AllReadyIn.nil
    refine AllReadyIn.cons rfl (fun K hK => ?_) ?_
    · go_simp
      refine hK _ _ ?_
      clear hK K
      refine wpAnyIn_ready (rs := [0, 3]) (by kernel_rfl) (by simp) ?_
      refine AllReadyIn.cons rfl (fun K hK => ?_) ?_
      · go_simp
        refine hK _ _ ?_
        clear hK K
        refine wpAnyIn_ready (rs := [3]) (by kernel_rfl) (by simp) ?_
        refine AllReadyIn.cons rfl (fun K hK => ?_) ?_
        · go_simp
          refine hK _ _ ?_
          clear hK K
          refine wpAnyIn_take (i := 5) (v := .int .i64 ((k : Int) * (i.1 : Int))) rfl rfl (by kernel_rfl) (by kernel_rfl) (by kernel_rfl) (fun _ _ _ h => h) ⟨Or.inl ⟨by rfl, by intro w; go_simp⟩, fun _ => rfl⟩ ?_
          refine wpAnyIn_take (i := 8) (v := .int .i64 ((k : Int) * (i.1 : Int) % (n : Int))) rfl rfl (by kernel_rfl) (by kernel_rfl) (by kernel_rfl) (fun _ _ _ h => h) ⟨Or.inl ⟨by rfl, by intro w; go_simp⟩, fun _ => rfl⟩ ?_
          refine wpAnyIn_take (i := 9) (v := .pointer (some ⟨w.heap.size + 1, pwr p (rootN p) i.1, none⟩)) rfl rfl (by kernel_rfl) (by kernel_rfl) (by kernel_rfl) (fun _ _ _ h => h) ⟨Or.inl ⟨by rfl, by intro w; go_simp⟩, fun _ => rfl⟩ ?_
          refine wpAnyIn_ready (rs := [10]) (by kernel_rfl) (by simp) ?_
          refine AllReadyIn.cons rfl (fun K hK => ?_) ?_
          · go_simp
            refine hK _ _ ?_
            clear hK K
            refine wpAnyIn_done (by kernel_rfl) ?_ _
            gi_wp2
            exact FIN.out
          exact AllReadyIn.nil
        exact AllReadyIn.nil
      refine AllReadyIn.cons rfl (fun K hK => ?_) ?_
      · go_simp
        refine hK _ _ ?_
        clear hK K
        refine wpAnyIn_take (i := 5) (v := .int .i64 ((k : Int) * (i.1 : Int))) rfl rfl (by kernel_rfl) (by kernel_rfl) (by kernel_rfl) (fun _ _ _ h => h) ⟨Or.inl ⟨by rfl, by intro w; go_simp⟩, fun _ => rfl⟩ ?_
        refine wpAnyIn_take (i := 8) (v := .int .i64 ((k : Int) * (i.1 : Int) % (n : Int))) rfl rfl (by kernel_rfl) (by kernel_rfl) (by kernel_rfl) (fun _ _ _ h => h) ⟨Or.inl ⟨by rfl, by intro w; go_simp⟩, fun _ => rfl⟩ ?_
        refine wpAnyIn_ready (rs := [0]) (by kernel_rfl) (by simp) ?_
        refine AllReadyIn.cons rfl (fun K hK => ?_) ?_
        · go_simp
          refine hK _ _ ?_
          clear hK K
          refine wpAnyIn_take (i := 9) (v := .pointer (some ⟨w.heap.size + 1, pwr p (rootN p) i.1, none⟩)) rfl rfl (by kernel_rfl) (by kernel_rfl) (by kernel_rfl) (fun _ _ _ h => h) ⟨Or.inl ⟨by rfl, by intro w; go_simp⟩, fun _ => rfl⟩ ?_
          refine wpAnyIn_ready (rs := [10]) (by kernel_rfl) (by simp) ?_
          refine AllReadyIn.cons rfl (fun K hK => ?_) ?_
          · go_simp
            refine hK _ _ ?_
            clear hK K
            refine wpAnyIn_done (by kernel_rfl) ?_ _
            gi_wp2
            exact FIN.out
          exact AllReadyIn.nil
        exact AllReadyIn.nil
      exact AllReadyIn.nil
    exact AllReadyIn.nil
  case done =>
    rintro D ys W hD hys ⟨⟨h0, h1, h2⟩, hB, hz⟩ hK
    gi_wp2
    refine ⟨by simp, .inl ⟨_, _, rfl, run_takeDeferred hK, ?_⟩⟩
    have hKB : Below W0.heap.size W (W.putObj D (.deferred none)) := belowK_b (w := W0) (Nat.le_refl _) W D _ _ (by omega) hK rfl rfl
    rw [hys, ← HM.out] at h2
    exact ⟨_, results_tmp rfl _ _ _, rfl, hB.trans (hKB.mono (by omega)), by have := hKB.size; omega, h0.keepB hKB (by omega), h1.keepB hKB (by omega), (h2.keep hKB (by omega)).congr (fun y hy => (exL_all HP.out y hy).symm)⟩
  case stop =>
    rintro D c pre W _ _ h _
    exact h.elim
end Go.Proofs.YtopapdahpeemfaaDoor
