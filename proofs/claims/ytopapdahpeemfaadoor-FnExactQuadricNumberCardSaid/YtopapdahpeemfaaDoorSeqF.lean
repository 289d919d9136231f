/- The powers of a residue as an iterator: powersModulo, countPowers, primitiveRoot, residuesByIndex of the program. -/
import Derived.RangeFuncNested
import Derived.RangeFuncBound
import Derived.RangeFuncCalls
import Derived.RangeFuncLeaves
import Derived.Shelf.Abstract
import Derived.Shelf.RegionOpen
import Derived.WalkKit
import Derived.OwnWalkIn
import Derived.TacticsInMore
import Derived.LoopNIn
import Derived.LoopIn
import Derived.Test.YtopapdahpeemfaaDoorPrm
import Derived.Test.YtopapdahpeemfaaDoorState
namespace Go.Proofs.YtopapdahpeemfaaDoor
open Go.RowKit Go.ChangeShapes Go.Shelf
set_option linter.unusedVariables false
set_option linter.unusedSimpArgs false
attribute [local go_sem] Oper.semAt_some

theorem powersModulo_any (g p : Int) (w : World) :
    Calls Tryd.prog 35 #[.int .i64 g, .int .i64 p] w fun e w' => e = .returned (.func (.func 37) #[] #[.pointer (some ⟨w.heap.size, 0, none⟩), .pointer (some ⟨w.heap.size + 1, 0, none⟩)]) ∧ w' = (w.alloc (.cells #[.int .i64 g] 2)).alloc (.cells #[.int .i64 p] 2) := by
  go_enter Tryd.func35, Tryd.ntmps35
  go_wp2
  go_ret
  exact ⟨by simp, rfl⟩

/-- The pair that comes at the place i. -/
abbrev encP (p g m : Nat) (i : Fin m) : Array Value := #[.int .i64 (i.1 : Int), .int .i64 (pwr p g i.1 : Nat)]

/-- Two blocks lie as they lay. -/
def Keeps2 (a b : Nat) (W W' : World) : Prop := W'.heap[a]? = W.heap[a]? ∧ W'.heap[b]? = W.heap[b]?
theorem Keeps2.refl (a b : Nat) (W : World) : Keeps2 a b W W := ⟨rfl, rfl⟩
theorem Keeps2.trans {a b : Nat} {X Y Z : World} (h : Keeps2 a b X Y) (k : Keeps2 a b Y Z) : Keeps2 a b X Z := ⟨k.1.trans h.1, k.2.trans h.2⟩
theorem Keeps2.below {a b B : Nat} {W W' : World} (h : Below B W W') (ha : a < B) (hb : b < B) : Keeps2 a b W W' := ⟨h.block a ha, h.block b hb⟩
theorem Keeps2.setCell {a b : Nat} {W : World} {q : Addr} (u : Value) (ha : a ≠ q.block) (hb : b ≠ q.block) : Keeps2 a b W (W.setCell q u) := ⟨Below.heap_setCell _ _ _ _ (by omega), Below.heap_setCell _ _ _ _ (by omega)⟩
theorem Keeps2.put {a b : Nat} {W : World} {l : Nat} (o' : Obj) (ha : a ≠ l) (hb : b ≠ l) : Keeps2 a b W (W.putObj l o') := ⟨World.putObj_heap_other (by omega), World.putObj_heap_other (by omega)⟩
theorem Keeps2.at {a b n₀ : Nat} (ha : a < n₀) (hb : b < n₀) (W : World) (l : Nat) (o o' : Obj) (hl : n₀ ≤ l) (h : W.heap[l]? = some o) (_ : o.isCells = false) (_ : o.isWalk = false) : Keeps2 a b W (W.putObj l o') := Keeps2.put o' (by omega) (by omega)

set_option maxRecDepth 100000 in
set_option maxHeartbeats 1000000 in
/-- The iterator hands on the powers of g, from the first to the last ahead of the next 1. -/
theorem pow_stops (p g m : Nat) (hp : primeN p = true) (h1 : 1 ≤ g) (h2 : g < p) (hm : perN p g = m) (F : Fence) (n : Nat) (hf : F.fn 37) (hro : F.round = none) (hn : 1 ≤ n) (bg bp : Nat) (w : World)
    (cg : w.cell? ⟨bg, 0, none⟩ = some (.int .i64 (g : Int))) (cp : w.cell? ⟨bp, 0, none⟩ = some (.int .i64 (p : Int))) :
    SeqStopsK F n Tryd.prog 37 #[.pointer (some ⟨bg, 0, none⟩), .pointer (some ⟨bp, 0, none⟩)] (encP p g m) (Keeps2 bg bp)
      (fun xs => xs.map Fin.val = List.range m) (fun pre => ∃ k, k ≤ m ∧ pre.map Fin.val = List.range k) m w := fun l J Jx W hW hJ hJx hY h0 => by
  have hb := primeN_bd hp
  have HP := Lib.hid (per_ok hp h1 h2)
  clear hp
  rw [hm] at HP
  have cgW : W.cell? ⟨bg, 0, none⟩ = some (.int .i64 (g : Int)) := (hW.cell (p := ⟨bg, 0, none⟩) (World.block_lt_of_cell? _ _ cg)).trans cg
  have cpW : W.cell? ⟨bp, 0, none⟩ = some (.int .i64 (p : Int)) := (hW.cell (p := ⟨bp, 0, none⟩) (World.block_lt_of_cell? _ _ cp)).trans cp
  refine callsIn_of_wp Tryd.func37 rfl hf ?_ hro
  simp only [Tryd.ntmps37, List.size_toArray, List.length_cons, List.length_nil, Nat.reduceAdd, Nat.reduceSub, Array.replicate_succ, Array.replicate_zero, List.push_toArray, List.append_toArray, List.nil_append, List.cons_append]
  gi_wp2
  gi_loopw [4, 5] (fun s4 s5 wr => ∃ (k : Nat) (pre : List (Fin m)), k ≤ m ∧ pre.map Fin.val = List.range k ∧ s4 = .int .i64 (pwr p g k : Nat) ∧ s5 = .int .i64 (k : Int) ∧ J pre wr ∧ Keeps2 bg bp W wr) (fun _ s5 _ => m + 1 - (intOf s5).toNat)
  case atStart => exact ⟨0, [], by omega, rfl, rfl, rfl, h0, Keeps2.refl _ _ _⟩
  case round =>
    obtain ⟨k, pre, hk, hpre, rfl, rfl, hJs, hBW⟩ := hrel
    have hlen : pre.length = k := by have := congrArg List.length hpre; simpa using this
    have hm1 := HP.out.1
    have hm2 := HP.out.2.1
    have hx := HP.out.2.2.2.2 k (by omega)
    by_cases hlt : k < m
    · obtain ⟨fn, tmps, assign, body, hy, hR⟩ := hY pre ⟨k, hlt⟩ wr hJs (by omega)
      dsimp only [encP] at hy
      have hpre2 : (pre ++ [(⟨k, hlt⟩ : Fin m)]).map Fin.val = List.range (k + 1) := by rw [List.map_append, hpre, List.range_succ]; rfl
      generalize hx0 : (⟨k, hlt⟩ : Fin m) = x0 at *
      have HPR := Lib.hid hpre2
      clear hpre2 hx0 hpre
      have hgoes : ((k : Int) == 0) = true ∨ (((k : Int) == 0) = false ∧ (((pwr p g k : Nat) : Int) != 1) = true) := by
        rcases Nat.eq_zero_or_pos k with e | e
        · exact .inl (by rw [e]; rfl)
        · refine .inr ⟨beq_eq_false_iff_ne.2 (by omega), ?_⟩
          have := HP.out.2.2.2.1 k e hlt
          rw [bne_iff_ne]; omega
      have hpp0 : 0 ≤ ((pwr p g k : Nat) : Int) * (g : Int) := Int.mul_nonneg (by omega) (by omega)
      have hpp1 : ((pwr p g k : Nat) : Int) * (g : Int) ≤ 61 * 61 := Int.mul_le_mul (by omega) (by omega) (by omega) (by omega)
      have hp0 : ¬ p = 0 := by omega
      have HS := Lib.hid (pwr_step (p := p) (g := g) (k := k) (by omega))
      rcases hgoes with hg | ⟨hg, hg2⟩
      all_goals
        gi_wp2
        refine hR.mono ?_
        rintro e W3 (⟨rfl, hJ3, hk3⟩ | ⟨rfl, hJx3⟩)
        · have hBW3 := hBW.trans hk3
          have cg3 : W3.cell? ⟨bg, 0, none⟩ = some (.int .i64 (g : Int)) := (World.cell?_of_block hBW3.1).trans cgW
          have cp3 : W3.cell? ⟨bp, 0, none⟩ = some (.int .i64 (p : Int)) := (World.cell?_of_block hBW3.2).trans cpW
          gi_wp2
          go_roundw
          case rel => exact ⟨k + 1, _, by omega, HPR.out, by rw [← HS.out], by go_num, hJ3, hBW3⟩
          case measure => simp [intOf]; omega
        · gi_wp2
          refine bodyPost_ret (results_none rfl _ _ _) rfl ?_
          exact ⟨⟨_, rfl⟩, .inr ⟨_, ⟨k + 1, by omega, HPR.out⟩, hJx3⟩⟩
    · obtain rfl : k = m := by omega
      have HE := Lib.hid HP.out.2.2.1
      have HPR := Lib.hid hpre
      clear hpre
      have hg : ((k : Int) == 0) = false := beq_eq_false_iff_ne.2 (by omega)
      have hg2 : (((pwr p g k : Nat) : Int) != 1) = false := by rw [HE.out]; rfl
      gi_wp2
      go_end0
      exact ⟨⟨_, rfl⟩, .inl ⟨pre, HPR.out, hJs⟩⟩

/-- A new variable of one cell. -/
theorem var_new (W : World) (v : Value) (t : TypeId) : (W.alloc (.cells #[v] t)).cell? ⟨W.heap.size, 0, none⟩ = some v ∧ (W.alloc (.cells #[v] t)).frozen? ⟨W.heap.size, 0, none⟩ = false := by
  have h := Box.made W #[v] t [v] (fun j u h => by simpa using h)
  exact ⟨h.2.1 0 v rfl, h.2.2 0⟩
theorem var_cell {W : World} {b k : Nat} {v : Value} (o : Obj) (h : W.cell? ⟨b, k, none⟩ = some v) : (W.alloc o).cell? ⟨b, k, none⟩ = some v := ((Below.refl W.heap.size W).alloc (Nat.le_refl _) o).cell (p := ⟨b, k, none⟩) (World.block_lt_of_cell? _ _ h) |>.trans h
theorem var_free {W : World} {b k : Nat} {v : Value} (o : Obj) (h : W.cell? ⟨b, k, none⟩ = some v) (hf : W.frozen? ⟨b, k, none⟩ = false) : (W.alloc o).frozen? ⟨b, k, none⟩ = false := ((Below.refl W.heap.size W).alloc (Nat.le_refl _) o).frozen (p := ⟨b, k, none⟩) (World.block_lt_of_cell? _ _ h) |>.trans hf

set_option maxRecDepth 100000 in
set_option maxHeartbeats 2000000 in
theorem countPowers_any (p g : Nat) (hp : primeN p = true) (h1 : 1 ≤ g) (h2 : g < p) (w : World) :
    Calls Tryd.prog 38 #[.int .i64 (g : Int), .int .i64 (p : Int)] w fun e w' => e = .returned (.int .i64 (perN p g : Nat)) ∧ Below w.heap.size w w' := by
  have hb := primeN_bd hp
  have hper := per_ok hp h1 h2
  obtain ⟨m, hm⟩ : ∃ m, perN p g = m := ⟨_, rfl⟩
  have hm60 : m ≤ 60 := by rw [← hm]; omega
  have HP := Lib.hid hp
  have HM := Lib.hid hm
  rw [hm]
  clear hp hm hper
  refine (callsIn_wide (n := 9)).1 ?_
  have hro : Fence.wide.round = none := rfl
  refine callsIn_of_wp_marks Tryd.func38 rfl trivial ?_ hro
  simp only [Tryd.ntmps38, List.size_toArray, List.length_cons, List.length_nil, Nat.reduceAdd, Nat.reduceSub, Array.replicate_succ, Array.replicate_zero, List.push_toArray, List.append_toArray, List.nil_append, List.cons_append]
  gi_wp2_with (refine ⟨trivial, ?_⟩; gi_at_call 35; refine (callsIn_wide.2 (powersModulo_any _ _ _)).mono ?_; rintro e w' ⟨rfl, rfl⟩)
  have hs := var_new w (.int .i64 0) 2
  have hg := var_new (w.alloc (.cells #[.int .i64 0] 2)) (.int .i64 (g : Int)) 2
  have hpp := var_new ((w.alloc (.cells #[.int .i64 0] 2)).alloc (.cells #[.int .i64 (g : Int)] 2)) (.int .i64 (p : Int)) 2
  simp only [World.size_alloc] at hg hpp
  have hB0 : Below w.heap.size w (((w.alloc (.cells #[.int .i64 0] 2)).alloc (.cells #[.int .i64 (g : Int)] 2)).alloc (.cells #[.int .i64 (p : Int)] 2)) := (((Below.refl _ w).alloc (Nat.le_refl _) _).alloc (by simp) _).alloc (by simp; omega) _
  refine wpIn_rangeFunc_ownF hro (by omega) (gf := 37) (lb := #[.pointer (some ⟨w.heap.size + 1, 0, none⟩), .pointer (some ⟨w.heap.size + 1 + 1, 0, none⟩)]) rfl trivial (enters_of Tryd.func37 (by kernel_rfl) rfl)
    (pow_stops p g m HP.out h1 h2 HM.out Fence.wide (9 - 1) trivial rfl (by omega) (w.heap.size + 1) (w.heap.size + 1 + 1) _ (var_cell _ hg.1) hpp.1) (fun h k => h.trans k) (Keeps2.at (by simp <;> omega) (by simp <;> omega)) (Below.refl _ _) (fun _ => rfl)
    (fun pre W => (W.cell? ⟨w.heap.size, 0, none⟩ = some (.int .i64 (pre.length : Nat)) ∧ W.frozen? ⟨w.heap.size, 0, none⟩ = false) ∧ Below w.heap.size w W)
    (fun _ _ _ => False)
    (OwnFrom.and (Own.from (fun s A B row hs hg hr => ⟨cell_kept hs.1 hg hr, (frozen_kept hs.1 hg hr).trans hs.2⟩) _) (ownFrom_below (Nat.le_refl _) (by simp; omega)))
    (fun _ _ _ _ _ hs _ _ => hs)
    ⟨⟨var_cell _ (var_cell _ hs.1), var_free _ (var_cell _ hs.1) (var_free _ hs.1 hs.2)⟩, hB0⟩
    (fun x => { tmps := #[.int .i64 (g : Int), .int .i64 (p : Int), undef, undef, .int .i64 0, .pointer (some ⟨w.heap.size, 0, none⟩), .int .i64 (g : Int), .int .i64 (p : Int), .func (.func 37) #[] #[.pointer (some ⟨w.heap.size + 1, 0, none⟩), .pointer (some ⟨w.heap.size + 1 + 1, 0, none⟩)], .int .i64 (x.1 : Int), .int .i64 (pwr p g x.1 : Nat), undef, undef, undef], defers := [] }) ?assign ?body ?done ?stop
  case assign =>
    intro l x W K hK
    gi_wp2
    first | exact hK | simpa [encP] using hK
  case body =>
    rintro l pre x W ⟨⟨hc, hf⟩, hB⟩ hlen
    gi_wp2
    exact ⟨KeepsOthers.setCell _ _ _, Keeps2.setCell _ (by simp <;> omega) (by simp <;> omega), ⟨by rw [List.length_append]; exact World.cell?_setCell_same' _ _ _ (by rw [hc]; rfl), by rw [World.frozen?_setCell]; exact hf⟩, hB.setCell (p := ⟨w.heap.size, 0, none⟩) (Nat.le_refl _) _⟩
  case done =>
    rintro D ys W hD hys ⟨⟨hc, _⟩, hB⟩ hK
    have hlen : ys.length = m := by have := congrArg List.length hys; simpa using this
    rw [hlen] at hc
    gi_wp2
    refine ⟨by simp, .inl ⟨_, _, rfl, run_takeDeferred hK, ?_⟩⟩
    exact ⟨_, results_tmp rfl _ _ _, rfl, hB.trans (belowK_b (w := w) (Nat.le_refl _) W D _ _ (by simp at hD; omega) hK rfl rfl)⟩
  case stop =>
    rintro D c pre W _ _ h _
    exact h.elim
end Go.Proofs.YtopapdahpeemfaaDoor
