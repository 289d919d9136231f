/- Polynomials with roots, as lists of numbers: reckoning, and how such a list lies in memory. Plain facts, no walk. -/
import Derived.Test.YtdalahgfpbdilaaProdI
import Derived.Test.YtdalahgfpbdilaaPlus
namespace Go.Proofs.Ytdalahgfpbdilaa
open Go.RowKit Go.ChangeShapes Go.Sort
set_option linter.unusedVariables false
set_option linter.unusedSimpArgs false

/-- The number ahead of the place k of a list. -/
def bef (G : Nat → Nat → Int) (k : Nat) : Nat → Int := if k = 0 then fun _ => 0 else G (k - 1)
/-- The list G of m numbers, times x less the root r. -/
def nxt (n : Nat) (G : Nat → Nat → Int) (r : Nat → Int) (m k : Nat) : Nat → Int :=
  if k < m then addF (-1) (bef G k) (prodZ n (phiN n) (G k) r) else bef G k
def nxOk (n : Nat) (G : Nat → Nat → Int) (r : Nat → Int) (k : Nat) : Prop :=
  Within (prodZ n (phiN n) (G k) r) (phiN n) 1000000000 ∧ Within (addF (-1) (bef G k) (prodZ n (phiN n) (G k) r)) (phiN n) 1000000000
def stOk (n : Nat) (G : Nat → Nat → Int) (r : Nat → Int) (m : Nat) : Prop := ∀ k, k < m → nxOk n G r k
/-- The list of the polynomial with the first i roots. -/
def plZ (n : Nat) (R : Nat → Nat → Int) : Nat → Nat → Nat → Int
  | 0 => fun _ => one0
  | i + 1 => nxt n (plZ n R i) (R i) (i + 1)
def plOk (n : Nat) (R : Nat → Nat → Int) (t : Nat) : Prop := ∀ i, i < t → stOk n (plZ n R i) (R i) (i + 1)

theorem zero_within (N : Nat) (c : Int) (hc : 0 ≤ c) : Within (fun _ => 0) N c := fun j _ => by dsimp only; omega
theorem bef_within {n m : Nat} {G : Nat → Nat → Int} (hG : ∀ k, k < m → Within (G k) (phiN n) 1000000000) {k : Nat} (hk : k ≤ m) : Within (bef G k) (phiN n) 1000000000 := by
  unfold bef
  split
  · exact zero_within _ _ (by omega)
  · exact hG _ (by omega)
theorem nxt_within {n m : Nat} {G : Nat → Nat → Int} {r : Nat → Int} (hG : ∀ k, k < m → Within (G k) (phiN n) 1000000000) (h : stOk n G r m) {k : Nat} (hk : k < m + 1) : Within (nxt n G r m k) (phiN n) 1000000000 := by
  unfold nxt
  split
  · exact (h k (by assumption)).2
  · exact bef_within hG (by omega)
theorem plZ_within {n : Nat} {R : Nat → Nat → Int} : ∀ {i : Nat}, plOk n R i → ∀ k, k < i + 1 → Within (plZ n R i k) (phiN n) 1000000000
  | 0, _ => fun k _ => one0_within _
  | i + 1, h => fun k hk => nxt_within (plZ_within (i := i) (fun j hj => h j (Nat.lt_succ_of_lt hj))) (h i (Nat.lt_succ_self _)) hk
theorem plOk_zero (n : Nat) (R : Nat → Nat → Int) : plOk n R 0 := fun i hi => absurd hi (Nat.not_lt_zero _)
theorem plOk_succ {n : Nat} {R : Nat → Nat → Int} {i : Nat} (h : plOk n R i) (hs : stOk n (plZ n R i) (R i) (i + 1)) : plOk n R (i + 1) := fun j hj => by
  rcases Nat.lt_succ_iff_lt_or_eq.1 hj with h1 | rfl
  · exact h j h1
  · exact hs
theorem bef_congr {N m : Nat} {G G' : Nat → Nat → Int} (h : ∀ k, k < m → ∀ j, j < N → G k j = G' k j) {k : Nat} (hk : k ≤ m) {j : Nat} (hj : j < N) : bef G k j = bef G' k j := by
  unfold bef
  split
  · rfl
  · exact h _ (by omega) j hj

/-- A list of numbers in memory, filled up to the place i: each with the order n and N Parts, which lie apart from the blocks bs. -/
def CL (w : World) (g i m n N : Nat) (vs : Nat → Value) (G : Nat → Nat → Int) (bs : List Nat) : Prop :=
  g < w.heap.size ∧ (∀ k, w.frozen? ⟨g, k, none⟩ = false) ∧
  (∀ k, k < m → w.cell? ⟨g, k * 2, none⟩ = some (if k < i then .int .i64 (n : Int) else .int .i64 0) ∧ w.cell? ⟨g, k * 2 + 1, none⟩ = some (if k < i then vs k else .slice none 0 0)) ∧
  ∀ k, k < i → ∃ lo hi, (∀ b ∈ bs, b < lo ∨ hi ≤ b) ∧ Sl false w lo hi (vs k) N (G k)
section
variable {w w' : World} {g i m n N : Nat} {vs : Nat → Value} {G : Nat → Nat → Int} {bs : List Nat}
theorem CL.keep {B : Nat} (h : CL w g i m n N vs G bs) (hb : Below B w w') (hB : w.heap.size ≤ B) : CL w' g i m n N vs G bs := by
  obtain ⟨h1, h2, h3, h4⟩ := h
  refine ⟨Nat.lt_of_lt_of_le h1 hb.size, fun k => (hb.frozen (p := ⟨g, k, none⟩) (by show g < B; omega)).trans (h2 k), fun k hk => ⟨(hb.cell (p := ⟨g, k * 2, none⟩) (by show g < B; omega)).trans (h3 k hk).1, (hb.cell (p := ⟨g, k * 2 + 1, none⟩) (by show g < B; omega)).trans (h3 k hk).2⟩, fun k hk => ?_⟩
  obtain ⟨lo, hi, q1, q2⟩ := h4 k hk
  exact ⟨lo, hi, q1, q2.keep hb (Nat.le_trans q2.size hB)⟩
theorem CL.alloc (h : CL w g i m n N vs G bs) (ob : Obj) : CL (w.alloc ob) g i m n N vs G bs := h.keep ((Below.refl _ _).alloc (Nat.le_refl _) _) (Nat.le_refl _)
theorem CL.drew (h : CL w g i m n N vs G bs) : CL w.drew g i m n N vs G bs := h.keep ((Below.refl w.heap.size w).drew) (Nat.le_refl _)
/-- A block that comes later lies apart. -/
theorem CL.more {b : Nat} (h : CL w g i m n N vs G bs) (hb : w.heap.size ≤ b) : CL w g i m n N vs G (b :: bs) := by
  obtain ⟨h1, h2, h3, h4⟩ := h
  refine ⟨h1, h2, h3, fun k hk => ?_⟩
  obtain ⟨lo, hi, q1, q2⟩ := h4 k hk
  refine ⟨lo, hi, fun x hx => ?_, q2⟩
  rcases List.mem_cons.1 hx with rfl | hx
  · have := q2.size; right; omega
  · exact q1 x hx
theorem CL.less (h : CL w g i m n N vs G bs) : CL w g i m n N vs G [] := by
  obtain ⟨h1, h2, h3, h4⟩ := h
  refine ⟨h1, h2, h3, fun k hk => ?_⟩
  obtain ⟨lo, hi, q1, q2⟩ := h4 k hk
  exact ⟨lo, hi, fun x hx => absurd hx List.not_mem_nil, q2⟩
theorem CL.congr {G' : Nat → Nat → Int} (h : CL w g i m n N vs G bs) (he : ∀ k, k < i → ∀ j, j < N → G' k j = G k j) : CL w g i m n N vs G' bs := by
  obtain ⟨h1, h2, h3, h4⟩ := h
  refine ⟨h1, h2, h3, fun k hk => ?_⟩
  obtain ⟨lo, hi, q1, q2⟩ := h4 k hk
  exact ⟨lo, hi, q1, q2.congr (he k hk)⟩
/-- A store into another block, from which the Parts lie apart. -/
theorem CL.setOther {b o : Nat} (h : CL w g i m n N vs G bs) (hb : b ∈ bs) (hne : g ≠ b) (u : Value) : CL (w.setCell ⟨b, o, none⟩ u) g i m n N vs G bs := by
  obtain ⟨h1, h2, h3, h4⟩ := h
  refine ⟨by simpa [World.setCell] using h1, fun k => (World.frozen?_setCell _ _ _ _).trans (h2 k), fun k hk => ⟨?_, ?_⟩, fun k hk => ?_⟩
  · exact (World.cell?_setCell_other _ _ _ _ (fun e => hne (by injection e with e1; exact e1.symm))).trans (h3 k hk).1
  · exact (World.cell?_setCell_other _ _ _ _ (fun e => hne (by injection e with e1; exact e1.symm))).trans (h3 k hk).2
  · obtain ⟨lo, hi, q1, q2⟩ := h4 k hk
    exact ⟨lo, hi, q1, q2.setOther (q1 b hb) u⟩
/-- The next number is stored. -/
theorem CL.push {u : Value} {lo hi : Nat} (h : CL w g i m n N vs G bs) (hg : g ∈ bs) (him : i < m) (hs : Sl false w lo hi u N (G i)) (ha : ∀ b ∈ bs, b < lo ∨ hi ≤ b) :
    CL ((w.setCell ⟨g, i * 2, none⟩ (.int .i64 (n : Int))).setCell ⟨g, i * 2 + 1, none⟩ u) g (i + 1) m n N (fun k => if k < i then vs k else u) G bs := by
  obtain ⟨h1, h2, h3, h4⟩ := h
  refine ⟨by simpa [World.setCell] using h1, fun k => by simpa using h2 k, fun k hk => ⟨?_, ?_⟩, fun k hk => ?_⟩
  · rw [setCell_ne _ _ _ _ _ (by omega)]
    by_cases e : k = i
    · subst e
      rw [if_pos (by omega)]
      exact World.cell?_setCell_same _ _ _ (h3 k hk).1
    · rw [setCell_ne _ _ _ _ _ (by omega), (h3 k hk).1]
      by_cases e2 : k < i
      · rw [if_pos e2, if_pos (by omega)]
      · rw [if_neg e2, if_neg (by omega)]
  · by_cases e : k = i
    · subst e
      dsimp only
      rw [if_pos (Nat.lt_succ_self _), if_neg (Nat.lt_irrefl _)]
      exact World.cell?_setCell_same _ _ _ (by rw [setCell_ne _ _ _ _ _ (by omega)]; exact (h3 k hk).2)
    · rw [setCell_ne _ _ _ _ _ (by omega), setCell_ne _ _ _ _ _ (by omega), (h3 k hk).2]
      by_cases e2 : k < i
      · dsimp only; rw [if_pos e2, if_pos (by omega), if_pos e2]
      · rw [if_neg e2, if_neg (by omega)]
  · by_cases e : k < i
    · obtain ⟨l, h', q1, q2⟩ := h4 k e
      exact ⟨l, h', q1, by dsimp only; rw [if_pos e]; exact (q2.setOther (q1 g hg) _).setOther (q1 g hg) _⟩
    · obtain rfl : k = i := by omega
      exact ⟨lo, _, ha, by dsimp only; rw [if_neg e]; exact (hs.setOther (ha g hg) _).setOther (ha g hg) _⟩
/-- A list just made: no number yet. -/
theorem CL.made (w : World) (t : TypeId) (m n N : Nat) (vs : Nat → Value) (G : Nat → Nat → Int) (bs : List Nat) :
    CL (w.alloc (.cells (madeCells #[.int .i64 0, .slice none 0 0] (m * 2)) t)) w.heap.size 0 m n N vs G bs := by
  have hh : (w.alloc (.cells (madeCells #[.int .i64 0, .slice none 0 0] (m * 2)) t)).heap[w.heap.size]? = some (.cells (madeCells #[.int .i64 0, .slice none 0 0] (m * 2)) t) := heap_alloc_new w _
  refine ⟨by simp, fun k => by unfold World.frozen?; rw [hh]; simp, fun k hk => ⟨?_, ?_⟩, fun k hk => absurd hk (Nat.not_lt_zero _)⟩
  · rw [cell_of_row _ _ _ _ _ _ hh, if_neg (Nat.not_lt_zero _)]
    unfold madeCells
    rw [Array.getElem?_map, Array.getElem?_range, if_pos (by omega)]
    show some ((#[Value.int .i64 0, Value.slice none 0 0] : Array Value)[k * 2 % 2]!) = _
    rw [show k * 2 % 2 = 0 by omega]; rfl
  · rw [cell_of_row _ _ _ _ _ _ hh, if_neg (Nat.not_lt_zero _)]
    unfold madeCells
    rw [Array.getElem?_map, Array.getElem?_range, if_pos (by omega)]
    show some ((#[Value.int .i64 0, Value.slice none 0 0] : Array Value)[(k * 2 + 1) % 2]!) = _
    rw [show (k * 2 + 1) % 2 = 1 by omega]; rfl
/-- A list of one number, just built. -/
theorem CL.one {u : Value} {lo hi : Nat} {F : Nat → Int} (w : World) (t : TypeId) (n N : Nat) (hs : Sl false w lo hi u N F) :
    CL (w.alloc (.cells #[.int .i64 (n : Int), u] t)) w.heap.size 1 1 n N (fun _ => u) (fun _ => F) [] := by
  have hh : (w.alloc (.cells #[.int .i64 (n : Int), u] t)).heap[w.heap.size]? = some (.cells #[.int .i64 (n : Int), u] t) := heap_alloc_new w _
  refine ⟨by simp, fun k => by unfold World.frozen?; rw [hh]; simp, fun k hk => ?_, fun k hk => ⟨lo, hi, fun x hx => absurd hx List.not_mem_nil, hs.alloc _⟩⟩
  obtain rfl : k = 0 := by omega
  exact ⟨by rw [cell_of_row _ _ _ _ _ _ hh, if_pos (by omega)]; rfl, by rw [cell_of_row _ _ _ _ _ _ hh, if_pos (by omega)]; rfl⟩
theorem CL.c0 (h : CL w g m m n N vs G bs) {k : Nat} (hk : k < m) : w.cell? ⟨g, k * 2, none⟩ = some (.int .i64 (n : Int)) := by have := (h.2.2.1 k hk).1; rwa [if_pos hk] at this
theorem CL.c1 (h : CL w g m m n N vs G bs) {k : Nat} (hk : k < m) : w.cell? ⟨g, k * 2 + 1, none⟩ = some (vs k) := by have := (h.2.2.1 k hk).2; rwa [if_pos hk] at this
theorem CL.z0 (h : CL w g i m n N vs G bs) (hi : i < m) : w.cell? ⟨g, i * 2, none⟩ = some (.int .i64 0) := by have := (h.2.2.1 i hi).1; rwa [if_neg (Nat.lt_irrefl _)] at this
theorem CL.z1 (h : CL w g i m n N vs G bs) (hi : i < m) : w.cell? ⟨g, i * 2 + 1, none⟩ = some (.slice none 0 0) := by have := (h.2.2.1 i hi).2; rwa [if_neg (Nat.lt_irrefl _)] at this
/-- A list that has grown by append. -/
theorem CL.ofRow {base cap : Nat} {e : TypeId} (h : RowE w base e 2 g cap m (fun k => [.int .i64 (n : Int), vs k])) (hs : ∀ k, k < m → ∃ lo hi, (∀ b ∈ bs, b < lo ∨ hi ≤ b) ∧ Sl false w lo hi (vs k) N (G k)) : CL w g m m n N vs G bs := by
  refine ⟨h.lt.2, fun k => h.frozen k, fun k hk => ?_, hs⟩
  have e0 := h.cell (fun _ => rfl) (i := k) (j := 0) hk (by omega)
  have e1 := h.cell (fun _ => rfl) (i := k) (j := 1) hk (by omega)
  rw [if_pos hk, if_pos hk]
  exact ⟨e0, e1⟩
end
end Go.Proofs.Ytdalahgfpbdilaa
