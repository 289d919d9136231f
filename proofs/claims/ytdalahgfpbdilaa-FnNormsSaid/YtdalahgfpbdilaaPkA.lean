/- Polynomials with roots, as lists of numbers: reckoning, and how such a list lies in memory. Plain facts, no walk. What stands in the polynomial whose roots are all images: the first number, the last but one, the last. Plain facts, no walk. A polynomial times x less a root: listWithRoot of the program. The polynomial with these roots: polynomialWithRoots of the program. DegreeOf of the model. A map whose keys are arrays of twelve numbers: whether it has one entry. The different images of a number: differentImagesOf of the program. Polynomials with images as roots: l02Polynomial of the model. Polynomials with images as roots: l02Polynomial of the model. Roots as arrays and as numbers: the same polynomials. CharacteristicOf of the program and of the model. -/
import Derived.Test.YtdalahgfpbdilaaProdI
import Derived.Test.YtdalahgfpbdilaaPlus
import Derived.Test.YtdalahgfpbdilaaNormZ
import Derived.Deep.RegionLaw
import Derived.Test.YtdalahgfpbdilaaImages2
import Derived.Test.YtdalahgfpbdilaaReal
import Derived.Maps.OwnSet
import Derived.Maps.Range
import Derived.DeepKeys4
import Derived.Maps.OwnIn
import Derived.Maps.OwnOps
import Derived.Maps.Views
import Derived.Test.YtdalahgfpbdilaaTimes
import Derived.Test.YtdalahgfpbdilaaPowZ
namespace Go.Proofs.Ytdalahgfpbdilaa
section
open Go.RowKit Go.ChangeShapes Go.Sort
set_option linter.unusedVariables false
set_option linter.unusedSimpArgs false

/-- The number ahead of the place k of a list. -/
def bef (G : Nat → Nat → Int) (k : Nat) : Nat → Int := if k = 0 then fun _ => 0 else G (k - 1)
/-- The list G of m numbers, times x less the root r. -/
def nxt (n : Nat) (G : Nat → Nat → Int) (r : Nat → Int) (m k : Nat) : Nat → Int :=
  if k < m then addF (-1) (bef G k) (prodZ n (phiN n) (G k) r) else bef G k
def nxOk (n : Nat) (G : Nat → Nat → Int) (r : Nat → Int) (k : Nat) : Prop :=
  Within (prodZ n (phiN n) (G k) r) (phiN n) 1000000000 ∧ Within (addF (-1) (bef G k) (prodZ n (phiN n) (G k) r)) (phiN n) 1000000000
def stOk (n : Nat) (G : Nat → Nat → Int) (r : Nat → Int) (m : Nat) : Prop := ∀ k, k < m → nxOk n G r k
/-- The list of the polynomial with the first i roots. -/
def plZ (n : Nat) (R : Nat → Nat → Int) : Nat → Nat → Nat → Int
  | 0 => fun _ => one0
  | i + 1 => nxt n (plZ n R i) (R i) (i + 1)
def plOk (n : Nat) (R : Nat → Nat → Int) (t : Nat) : Prop := ∀ i, i < t → stOk n (plZ n R i) (R i) (i + 1)

theorem zero_within (N : Nat) (c : Int) (hc : 0 ≤ c) : Within (fun _ => 0) N c := fun j _ => by dsimp only; omega
theorem bef_within {n m : Nat} {G : Nat → Nat → Int} (hG : ∀ k, k < m → Within (G k) (phiN n) 1000000000) {k : Nat} (hk : k ≤ m) : Within (bef G k) (phiN n) 1000000000 := by
  unfold bef
  split
  · exact zero_within _ _ (by omega)
  · exact hG _ (by omega)
theorem nxt_within {n m : Nat} {G : Nat → Nat → Int} {r : Nat → Int} (hG : ∀ k, k < m → Within (G k) (phiN n) 1000000000) (h : stOk n G r m) {k : Nat} (hk : k < m + 1) : Within (nxt n G r m k) (phiN n) 1000000000 := by
  unfold nxt
  split
  · exact (h k (by assumption)).2
  · exact bef_within hG (by omega)
theorem plZ_within {n : Nat} {R : Nat → Nat → Int} : ∀ {i : Nat}, plOk n R i → ∀ k, k < i + 1 → Within (plZ n R i k) (phiN n) 1000000000
  | 0, _ => fun k _ => one0_within _
  | i + 1, h => fun k hk => nxt_within (plZ_within (i := i) (fun j hj => h j (Nat.lt_succ_of_lt hj))) (h i (Nat.lt_succ_self _)) hk
theorem plOk_zero (n : Nat) (R : Nat → Nat → Int) : plOk n R 0 := fun i hi => absurd hi (Nat.not_lt_zero _)
theorem plOk_succ {n : Nat} {R : Nat → Nat → Int} {i : Nat} (h : plOk n R i) (hs : stOk n (plZ n R i) (R i) (i + 1)) : plOk n R (i + 1) := fun j hj => by
  rcases Nat.lt_succ_iff_lt_or_eq.1 hj with h1 | rfl
  · exact h j h1
  · exact hs
theorem bef_congr {N m : Nat} {G G' : Nat → Nat → Int} (h : ∀ k, k < m → ∀ j, j < N → G k j = G' k j) {k : Nat} (hk : k ≤ m) {j : Nat} (hj : j < N) : bef G k j = bef G' k j := by
  unfold bef
  split
  · rfl
  · exact h _ (by omega) j hj

/-- A list of numbers in memory, filled up to the place i: each with the order n and N Parts, which lie apart from the blocks bs. -/
def CL (w : World) (g i m n N : Nat) (vs : Nat → Value) (G : Nat → Nat → Int) (bs : List Nat) : Prop :=
  g < w.heap.size ∧ (∀ k, w.frozen? ⟨g, k, none⟩ = false) ∧
  (∀ k, k < m → w.cell? ⟨g, k * 2, none⟩ = some (if k < i then .int .i64 (n : Int) else .int .i64 0) ∧ w.cell? ⟨g, k * 2 + 1, none⟩ = some (if k < i then vs k else .slice none 0 0)) ∧
  ∀ k, k < i → ∃ lo hi, (∀ b ∈ bs, b < lo ∨ hi ≤ b) ∧ Sl false w lo hi (vs k) N (G k)
section
variable {w w' : World} {g i m n N : Nat} {vs : Nat → Value} {G : Nat → Nat → Int} {bs : List Nat}
theorem CL.keep {B : Nat} (h : CL w g i m n N vs G bs) (hb : Below B w w') (hB : w.heap.size ≤ B) : CL w' g i m n N vs G bs := by
  obtain ⟨h1, h2, h3, h4⟩ := h
  refine ⟨Nat.lt_of_lt_of_le h1 hb.size, fun k => (hb.frozen (p := ⟨g, k, none⟩) (by show g < B; omega)).trans (h2 k), fun k hk => ⟨(hb.cell (p := ⟨g, k * 2, none⟩) (by show g < B; omega)).trans (h3 k hk).1, (hb.cell (p := ⟨g, k * 2 + 1, none⟩) (by show g < B; omega)).trans (h3 k hk).2⟩, fun k hk => ?_⟩
  obtain ⟨lo, hi, q1, q2⟩ := h4 k hk
  exact ⟨lo, hi, q1, q2.keep hb (Nat.le_trans q2.size hB)⟩
theorem CL.alloc (h : CL w g i m n N vs G bs) (ob : Obj) : CL (w.alloc ob) g i m n N vs G bs := h.keep ((Below.refl _ _).alloc (Nat.le_refl _) _) (Nat.le_refl _)
theorem CL.drew (h : CL w g i m n N vs G bs) : CL w.drew g i m n N vs G bs := h.keep ((Below.refl w.heap.size w).drew) (Nat.le_refl _)
/-- A block that comes later lies apart. -/
theorem CL.more {b : Nat} (h : CL w g i m n N vs G bs) (hb : w.heap.size ≤ b) : CL w g i m n N vs G (b :: bs) := by
  obtain ⟨h1, h2, h3, h4⟩ := h
  refine ⟨h1, h2, h3, fun k hk => ?_⟩
  obtain ⟨lo, hi, q1, q2⟩ := h4 k hk
  refine ⟨lo, hi, fun x hx => ?_, q2⟩
  rcases List.mem_cons.1 hx with rfl | hx
  · have := q2.size; right; omega
  · exact q1 x hx
theorem CL.less (h : CL w g i m n N vs G bs) : CL w g i m n N vs G [] := by
  obtain ⟨h1, h2, h3, h4⟩ := h
  refine ⟨h1, h2, h3, fun k hk => ?_⟩
  obtain ⟨lo, hi, q1, q2⟩ := h4 k hk
  exact ⟨lo, hi, fun x hx => absurd hx List.not_mem_nil, q2⟩
theorem CL.congr {G' : Nat → Nat → Int} (h : CL w g i m n N vs G bs) (he : ∀ k, k < i → ∀ j, j < N → G' k j = G k j) : CL w g i m n N vs G' bs := by
  obtain ⟨h1, h2, h3, h4⟩ := h
  refine ⟨h1, h2, h3, fun k hk => ?_⟩
  obtain ⟨lo, hi, q1, q2⟩ := h4 k hk
  exact ⟨lo, hi, q1, q2.congr (he k hk)⟩
/-- A store into another block, from which the Parts lie apart. -/
theorem CL.setOther {b o : Nat} (h : CL w g i m n N vs G bs) (hb : b ∈ bs) (hne : g ≠ b) (u : Value) : CL (w.setCell ⟨b, o, none⟩ u) g i m n N vs G bs := by
  obtain ⟨h1, h2, h3, h4⟩ := h
  refine ⟨by simpa [World.setCell] using h1, fun k => (World.frozen?_setCell _ _ _ _).trans (h2 k), fun k hk => ⟨?_, ?_⟩, fun k hk => ?_⟩
  · exact (World.cell?_setCell_other _ _ _ _ (fun e => hne (by injection e with e1; exact e1.symm))).trans (h3 k hk).1
  · exact (World.cell?_setCell_other _ _ _ _ (fun e => hne (by injection e with e1; exact e1.symm))).trans (h3 k hk).2
  · obtain ⟨lo, hi, q1, q2⟩ := h4 k hk
    exact ⟨lo, hi, q1, q2.setOther (q1 b hb) u⟩
/-- The next number is stored. -/
theorem CL.push {u : Value} {lo hi : Nat} (h : CL w g i m n N vs G bs) (hg : g ∈ bs) (him : i < m) (hs : Sl false w lo hi u N (G i)) (ha : ∀ b ∈ bs, b < lo ∨ hi ≤ b) :
    CL ((w.setCell ⟨g, i * 2, none⟩ (.int .i64 (n : Int))).setCell ⟨g, i * 2 + 1, none⟩ u) g (i + 1) m n N (fun k => if k < i then vs k else u) G bs := by
  obtain ⟨h1, h2, h3, h4⟩ := h
  refine ⟨by simpa [World.setCell] using h1, fun k => by simpa using h2 k, fun k hk => ⟨?_, ?_⟩, fun k hk => ?_⟩
  · rw [setCell_ne _ _ _ _ _ (by omega)]
    by_cases e : k = i
    · subst e
      rw [if_pos (by omega)]
      exact World.cell?_setCell_same _ _ _ (h3 k hk).1
    · rw [setCell_ne _ _ _ _ _ (by omega), (h3 k hk).1]
      by_cases e2 : k < i
      · rw [if_pos e2, if_pos (by omega)]
      · rw [if_neg e2, if_neg (by omega)]
  · by_cases e : k = i
    · subst e
      dsimp only
      rw [if_pos (Nat.lt_succ_self _), if_neg (Nat.lt_irrefl _)]
      exact World.cell?_setCell_same _ _ _ (by rw [setCell_ne _ _ _ _ _ (by omega)]; exact (h3 k hk).2)
    · rw [setCell_ne _ _ _ _ _ (by omega), setCell_ne _ _ _ _ _ (by omega), (h3 k hk).2]
      by_cases e2 : k < i
      · dsimp only; rw [if_pos e2, if_pos (by omega), if_pos e2]
      · rw [if_neg e2, if_neg (by omega)]
  · by_cases e : k < i
    · obtain ⟨l, h', q1, q2⟩ := h4 k e
      exact ⟨l, h', q1, by dsimp only; rw [if_pos e]; exact (q2.setOther (q1 g hg) _).setOther (q1 g hg) _⟩
    · obtain rfl : k = i := by omega
      exact ⟨lo, _, ha, by dsimp only; rw [if_neg e]; exact (hs.setOther (ha g hg) _).setOther (ha g hg) _⟩
/-- A list just made: no number yet. -/
theorem CL.made (w : World) (t : TypeId) (m n N : Nat) (vs : Nat → Value) (G : Nat → Nat → Int) (bs : List Nat) :
    CL (w.alloc (.cells (madeCells #[.int .i64 0, .slice none 0 0] (m * 2)) t)) w.heap.size 0 m n N vs G bs := by
  have hh : (w.alloc (.cells (madeCells #[.int .i64 0, .slice none 0 0] (m * 2)) t)).heap[w.heap.size]? = some (.cells (madeCells #[.int .i64 0, .slice none 0 0] (m * 2)) t) := heap_alloc_new w _
  refine ⟨by simp, fun k => by unfold World.frozen?; rw [hh]; simp, fun k hk => ⟨?_, ?_⟩, fun k hk => absurd hk (Nat.not_lt_zero _)⟩
  · rw [cell_of_row _ _ _ _ _ _ hh, if_neg (Nat.not_lt_zero _)]
    unfold madeCells
    rw [Array.getElem?_map, Array.getElem?_range, if_pos (by omega)]
    show some ((#[Value.int .i64 0, Value.slice none 0 0] : Array Value)[k * 2 % 2]!) = _
    rw [show k * 2 % 2 = 0 by omega]; rfl
  · rw [cell_of_row _ _ _ _ _ _ hh, if_neg (Nat.not_lt_zero _)]
    unfold madeCells
    rw [Array.getElem?_map, Array.getElem?_range, if_pos (by omega)]
    show some ((#[Value.int .i64 0, Value.slice none 0 0] : Array Value)[(k * 2 + 1) % 2]!) = _
    rw [show (k * 2 + 1) % 2 = 1 by omega]; rfl
/-- A list of one number, just built. -/
theorem CL.one {u : Value} {lo hi : Nat} {F : Nat → Int} (w : World) (t : TypeId) (n N : Nat) (hs : Sl false w lo hi u N F) :
    CL (w.alloc (.cells #[.int .i64 (n : Int), u] t)) w.heap.size 1 1 n N (fun _ => u) (fun _ => F) [] := by
  have hh : (w.alloc (.cells #[.int .i64 (n : Int), u] t)).heap[w.heap.size]? = some (.cells #[.int .i64 (n : Int), u] t) := heap_alloc_new w _
  refine ⟨by simp, fun k => by unfold World.frozen?; rw [hh]; simp, fun k hk => ?_, fun k hk => ⟨lo, hi, fun x hx => absurd hx List.not_mem_nil, hs.alloc _⟩⟩
  obtain rfl : k = 0 := by omega
  exact ⟨by rw [cell_of_row _ _ _ _ _ _ hh, if_pos (by omega)]; rfl, by rw [cell_of_row _ _ _ _ _ _ hh, if_pos (by omega)]; rfl⟩
theorem CL.c0 (h : CL w g m m n N vs G bs) {k : Nat} (hk : k < m) : w.cell? ⟨g, k * 2, none⟩ = some (.int .i64 (n : Int)) := by have := (h.2.2.1 k hk).1; rwa [if_pos hk] at this
theorem CL.c1 (h : CL w g m m n N vs G bs) {k : Nat} (hk : k < m) : w.cell? ⟨g, k * 2 + 1, none⟩ = some (vs k) := by have := (h.2.2.1 k hk).2; rwa [if_pos hk] at this
theorem CL.z0 (h : CL w g i m n N vs G bs) (hi : i < m) : w.cell? ⟨g, i * 2, none⟩ = some (.int .i64 0) := by have := (h.2.2.1 i hi).1; rwa [if_neg (Nat.lt_irrefl _)] at this
theorem CL.z1 (h : CL w g i m n N vs G bs) (hi : i < m) : w.cell? ⟨g, i * 2 + 1, none⟩ = some (.slice none 0 0) := by have := (h.2.2.1 i hi).2; rwa [if_neg (Nat.lt_irrefl _)] at this
/-- A list that has grown by append. -/
theorem CL.ofRow {base cap : Nat} {e : TypeId} (h : RowE w base e 2 g cap m (fun k => [.int .i64 (n : Int), vs k])) (hs : ∀ k, k < m → ∃ lo hi, (∀ b ∈ bs, b < lo ∨ hi ≤ b) ∧ Sl false w lo hi (vs k) N (G k)) : CL w g m m n N vs G bs := by
  refine ⟨h.lt.2, fun k => h.frozen k, fun k hk => ?_, hs⟩
  have e0 := h.cell (fun _ => rfl) (i := k) (j := 0) hk (by omega)
  have e1 := h.cell (fun _ => rfl) (i := k) (j := 1) hk (by omega)
  rw [if_pos hk, if_pos hk]
  exact ⟨e0, e1⟩
end
end

section
open Go.RowKit Go.ChangeShapes Go.Sort
set_option linter.unusedVariables false
set_option linter.unusedSimpArgs false

section
variable {n : Nat}
theorem plZ_top (R : Nat → Nat → Int) : ∀ i, plZ n R i i = one0
  | 0 => rfl
  | i + 1 => by
    show nxt n (plZ n R i) (R i) (i + 1) (i + 1) = one0
    unfold nxt bef
    rw [if_neg (Nat.lt_irrefl _), if_neg (Nat.succ_ne_zero i)]
    exact plZ_top R i
theorem plZ_second (hn : n < 17) (h1 : 1 ≤ n) (R : Nat → Nat → Int) : ∀ i, plZ n R (i + 1) i 0 = -sumN (i + 1) (fun k => R k 0)
  | 0 => by
    show nxt n (plZ n R 0) (R 0) 1 0 0 = -(0 + R 0 0)
    unfold nxt bef addF
    rw [if_pos Nat.one_pos, if_pos rfl]
    show (0 : Int) + -1 * prodZ n (phiN n) one0 (R 0) 0 = _
    rw [prodZ_comm, pz_one hn h1 _ (phi_pos n hn h1)]
    omega
  | i + 1 => by
    show nxt n (plZ n R (i + 1)) (R (i + 1)) (i + 2) (i + 1) 0 = -(sumN (i + 1) (fun k => R k 0) + R (i + 1) 0)
    unfold nxt bef addF
    rw [if_pos (Nat.lt_succ_self _), if_neg (Nat.succ_ne_zero i)]
    show plZ n R (i + 1) (i + 1 - 1) 0 + -1 * prodZ n (phiN n) (plZ n R (i + 1) (i + 1)) (R (i + 1)) 0 = _
    rw [Nat.add_sub_cancel, plZ_second hn h1 R i, plZ_top, prodZ_comm, pz_one hn h1 _ (phi_pos n hn h1)]
    omega
def sg (i : Nat) : Int := if i % 2 = 0 then 1 else -1
theorem sg_succ (i : Nat) : sg (i + 1) = -1 * sg i := by
  unfold sg
  by_cases h : i % 2 = 0
  · rw [if_pos h, if_neg (by omega)]; rfl
  · rw [if_neg h, if_pos (by omega)]; rfl
theorem plZ_last (f : Nat → Int) : ∀ i j, plZ n (im n (phiN n) f) i 0 j = sg i * prI n (phiN n) f 0 i j
  | 0, j => by show one0 j = 1 * one0 j; omega
  | i + 1, j => by
    show nxt n (plZ n (im n (phiN n) f) i) (im n (phiN n) f i) (i + 1) 0 j = sg (i + 1) * prodZ n (phiN n) (prI n (phiN n) f 0 i) (im n (phiN n) f (0 + i)) j
    unfold nxt bef addF
    rw [if_pos (Nat.succ_pos i), if_pos rfl, Nat.zero_add]
    show (0 : Int) + -1 * prodZ n (phiN n) (plZ n (im n (phiN n) f) i 0) (im n (phiN n) f i) j = _
    rw [pz_congr (fun j _ => plZ_last f i j) (fun _ _ => rfl), pz_smull, sg_succ, Int.mul_assoc]
    omega
end
end

section
open Go.RowKit Go.ChangeShapes Go.Sort
set_option linter.unusedVariables false
set_option linter.unusedSimpArgs false

set_option maxRecDepth 100000 in
set_option maxHeartbeats 4000000 in
theorem listWithRoot_any (n : Nat) (h1 : 1 ≤ n) (h2 : n ≤ 16) (m : Nat) (hm1 : 1 ≤ m) (hm : m ≤ 12) (w : World) {g cap : Nat} {vs : Nat → Value} {G : Nat → Nat → Int} {r : Nat → Int} (hC : CL w g m m n (phiN n) vs G [])
    (hr : Within r 12 12000000000) (hz : ∀ j, phiN n ≤ j → j < 12 → r j = 0) (hG : ∀ k, k < m → Within (G k) (phiN n) 1000000000) :
    Calls Try.prog 209 #[.int .i64 (n : Int), .slice (some ⟨g, 0, none⟩) m cap, arrV r] w fun e w' => ((stOk n G r m ∧ ∃ g' vs', e = .returned (.tuple #[.slice (some ⟨g', 0, none⟩) (m + 1) (m + 1), .int .i64 0]) ∧ CL w' g' (m + 1) (m + 1) n (phiN n) vs' (nxt n G r m) []) ∨ (¬ stOk n G r m ∧ e = .returned (.tuple #[.slice none 0 0, .int .i64 3]))) ∧ Below w.heap.size w w' := by
  have hp := phi_le12 n h2 h1
  have hp0 := phiN_pos n (by omega) h1
  have HT := Lib.hid (fun w => totient_below n w (by omega))
  have HGW := Lib.hid hG
  have HBW := Lib.hid (fun k (hk : k ≤ m) => bef_within (n := n) (m := m) hG hk)
  have HRW := Lib.hid hr
  have HRZ := Lib.hid hz
  have HCY := Lib.hid (fun (F : Nat → Int) (hF : Within F (phiN n) 1000000000) => (⟨by omega, by omega, rfl, hF⟩ : CyP n (phiN n) F))
  have hc0 := CL.more (b := w.heap.size) hC (Nat.le_refl _)
  have HC0 := Lib.hid (hC.alloc (.cells (arrC r) 101))
  have hgs := hC.1
  have SR := Lib.hid (Sl.arr w r 101 (fun j hj => by have := hr j hj; unfold inR; omega))
  clear hC hr hz hG hc0
  have hmk : ∀ w : World, (Instr.makeSlice 132 (.int .i64 ((m : Int) + 1)) (.int .i64 ((m : Int) + 1))).run Try.prog w = .ok (.slice (some ⟨w.heap.size, 0, none⟩) (m + 1) (m + 1)) (w.alloc (.cells (madeCells #[.int .i64 0, .slice none 0 0] ((m + 1) * 2)) 28)) := by
    intro w
    obtain ⟨i0, hi, hz0, hz1, hz2⟩ := info_parts Try.info28
    have h := run_make (P := Try.prog) w 132 28 i0 (.agg #[.int .i64 0, .slice none 0 0]) Try.underlying132 hi hz0 .i64 .i64 ((m : Int) + 1) ((m : Int) + 1) (by omega) (by omega) (by rw [hz2]; omega) (by omega)
    rw [hz1, show ((m : Int) + 1).toNat = m + 1 by omega] at h
    exact h
  have hmk2 := run_make_row' (P := Try.prog) 22 2 (.int .i64 0) 8 Try.underlying22 Try.info2 rfl .i64 .i64 (phiN n) (by omega) (by omega)
  unfold arrC at HC0 SR
  unfold arrV
  go_enter Try.func209, Try.ntmps209
  go_wp2_with (go_at_call 208; refine (HT.out _).mono ?_; rintro e w4 ⟨rfl, b4⟩)
  have hz4 := b4.size
  simp only [World.size_alloc] at hz4
  have cO := (((((HC0.out.more (b := w.heap.size + 1) (by simp)).alloc (.cells (madeCells #[.int .i64 0, .slice none 0 0] ((m + 1) * 2)) 28)).keep b4 (Nat.le_refl _)).alloc (.cells (madeCells #[.int .i64 0] (phiN n)) 2)).more (b := w4.heap.size + 1) (by simp)).alloc (.cells #[.int .i64 (n : Int), .slice (some ⟨w4.heap.size, 0, none⟩) (phiN n) (phiN n)] 28)
  have cN := ((((CL.made (w.alloc (.cells #[.int .i64 (r 0), .int .i64 (r 1), .int .i64 (r 2), .int .i64 (r 3), .int .i64 (r 4), .int .i64 (r 5), .int .i64 (r 6), .int .i64 (r 7), .int .i64 (r 8), .int .i64 (r 9), .int .i64 (r 10), .int .i64 (r 11)] 101)) 28 (m + 1) n (phiN n) vs (nxt n G r m) [w4.heap.size + 1, w.heap.size + 1])).keep b4 (Nat.le_refl _)).alloc (.cells (madeCells #[.int .i64 0] (phiN n)) 2)).alloc (.cells #[.int .i64 (n : Int), .slice (some ⟨w4.heap.size, 0, none⟩) (phiN n) (phiN n)] 28)
  simp only [World.size_alloc] at cN
  have stA := (((((St.start w).alloc (.cells #[.int .i64 (r 0), .int .i64 (r 1), .int .i64 (r 2), .int .i64 (r 3), .int .i64 (r 4), .int .i64 (r 5), .int .i64 (r 6), .int .i64 (r 7), .int .i64 (r 8), .int .i64 (r 9), .int .i64 (r 10), .int .i64 (r 11)] 101)).addSl ⟨true, w.heap.size, w.heap.size + 1, .slice (some ⟨w.heap.size, 0, none⟩) 12 12, 12, r⟩ SR.out).alloc (.cells (madeCells #[.int .i64 0, .slice none 0 0] ((m + 1) * 2)) 28)).keep b4).alloc (.cells (madeCells #[.int .i64 0] (phiN n)) 2)
  have sZ := ((Sl.made w4 (madeCells #[.int .i64 0] (phiN n)) 2 (phiN n) (phiN n) (fun _ => 0) (Nat.le_refl _) (by unfold maxLen; omega) (fun _ _ => by simp [inR]) (fun j hj => madeCells_at _ _ _ hj)).alloc (.cells #[.int .i64 (n : Int), .slice (some ⟨w4.heap.size, 0, none⟩) (phiN n) (phiN n)] 28)).rd
  have stB := stA.boxNew (.int .i64 (n : Int)) (.slice (some ⟨w4.heap.size, 0, none⟩) (phiN n) (phiN n)) 28
  simp only [World.size_alloc] at stB
  have CO := Lib.hid cO
  have CN := Lib.hid cN
  have SZ := Lib.hid sZ
  have SB := Lib.hid stB
  clear cO cN sZ stA stB b4 HC0 SR hmk hmk2 HT
  go_loopw [25] (fun s25 wr => ∃ (i : Nat) (vn : Nat → Value) (a9 : Option Addr) (k9 lo hi : Nat), i ≤ m ∧ s25 = .int .i64 (i : Int) ∧ CL wr g m m n (phiN n) vs G [w4.heap.size + 1, w.heap.size + 1] ∧ CL wr (w.heap.size + 1) i (m + 1) n (phiN n) vn (nxt n G r m) [w4.heap.size + 1, w.heap.size + 1] ∧
      (w4.heap.size + 1 < lo ∨ hi ≤ w4.heap.size + 1) ∧ (w.heap.size + 1 < lo ∨ hi ≤ w.heap.size + 1) ∧ Sl false wr lo hi (.slice a9 (phiN n) k9) (phiN n) (bef G i) ∧ (∀ k, k < i → nxOk n G r k) ∧
      St w wr [(w4.heap.size + 1, [.int .i64 (n : Int), .slice a9 (phiN n) k9])] [⟨true, w.heap.size, w.heap.size + 1, .slice (some ⟨w.heap.size, 0, none⟩) 12 12, 12, r⟩]) (fun s25 _ => m - (intOf s25).toNat)
  case atStart => exact ⟨0, vs, _, _, w4.heap.size, w4.heap.size + 1, Nat.zero_le _, rfl, CO.out, CN.out, .inr (Nat.le_refl _), .inl (by omega), SZ.out, fun k hk => absurd hk (Nat.not_lt_zero _), SB.out⟩
  case round =>
    clear CO CN SZ SB
    obtain ⟨i, vn, a9, k9, lo, hi, him, rfl, hco, hcn, hd9, hdn, hs9, hok, hst⟩ := hrel
    have CO := Lib.hid hco; clear hco
    have CN := Lib.hid hcn; clear hcn
    have S9 := Lib.hid hs9; clear hs9
    have HOK := Lib.hid hok; clear hok
    have HT := Lib.hid hst; clear hst
    obtain ⟨p0, p1⟩ := (HT.out.box 0 (w4.heap.size + 1, [.int .i64 (n : Int), .slice a9 (phiN n) k9]) rfl).cell2
    have pz := (HT.out.box 0 (w4.heap.size + 1, [.int .i64 (n : Int), .slice a9 (phiN n) k9]) rfl).2.2
    have pl := (HT.out.box 0 (w4.heap.size + 1, [.int .i64 (n : Int), .slice a9 (phiN n) k9]) rfl).1
    dsimp only at pz pl
    by_cases hlt : i < m
    · have hi2 : (i : Int) < (m : Int) := by omega
      have hi3 : (i : Int) < (m : Int) + 1 := by omega
      have e0 := CO.out.c0 hlt
      have e1 := CO.out.c1 hlt
      obtain ⟨l8, h8, hd8, q8⟩ := CO.out.2.2.2 i hlt
      obtain ⟨a8, k8, hv8⟩ := q8.shape
      rw [hv8] at e1 q8
      have HV8 := Lib.hid hv8
      clear hv8
      have qr := HT.out.sl 0 ⟨true, w.heap.size, w.heap.size + 1, .slice (some ⟨w.heap.size, 0, none⟩) 12 12, 12, r⟩ rfl
      dsimp only at qr
      have HZB := Lib.hid ((Box.made (wr.alloc (.cells #[.int .i64 (n : Int), .slice a8 (phiN n) k8] 28)) #[.int .i64 0, .slice none 0 0] 28 [.int .i64 0, .slice none 0 0] (fun j v h => by simpa using h)))
      by_cases hP : Within (prodZ n (phiN n) (G i) r) (phiN n) 1000000000
      · have HP := Lib.hid hP
        have HPW := Lib.hid (productWithin_ok n h1 h2 (wr.alloc (.cells #[.int .i64 (n : Int), .slice a8 (phiN n) k8] 28)).drew (q8.alloc (.cells #[.int .i64 (n : Int), .slice a8 (phiN n) k8] 28)).drew (qr.alloc (.cells #[.int .i64 (n : Int), .slice a8 (phiN n) k8] 28)).drew (Within.big (HGW.out i hlt)) HRW.out hp0 hp (Nat.le_refl _) HRZ.out hP)
        have HPA := Lib.hid (productWithin_ok n h1 h2 ((wr.alloc (.cells #[.int .i64 (n : Int), .slice a8 (phiN n) k8] 28)).alloc (.cells #[.int .i64 0, .slice none 0 0] 28)).drew ((q8.alloc (.cells #[.int .i64 (n : Int), .slice a8 (phiN n) k8] 28)).alloc (.cells #[.int .i64 0, .slice none 0 0] 28)).drew ((qr.alloc (.cells #[.int .i64 (n : Int), .slice a8 (phiN n) k8] 28)).alloc (.cells #[.int .i64 0, .slice none 0 0] 28)).drew (Within.big (HGW.out i hlt)) HRW.out hp0 hp (Nat.le_refl _) HRZ.out hP)
        have Q8 := Lib.hid q8
        clear hP qr q8
        go_wp2_with fail
        go_cut [12, 13] from 27 to 54 (fun s12 s13 wx => ∃ (b12 lo7 hi7 : Nat) (a7 : Option Addr) (k7 : Nat), s12 = .pointer (some ⟨b12, 0, none⟩) ∧ s13 = .int .i64 0 ∧ Below (wr.alloc (.cells #[.int .i64 (n : Int), .slice a8 (phiN n) k8] 28)).heap.size (wr.alloc (.cells #[.int .i64 (n : Int), .slice a8 (phiN n) k8] 28)) wx ∧ Box wx b12 [.int .i64 (n : Int), .slice a7 (phiN n) k7] ∧ Sl true wx lo7 hi7 (.slice a7 (phiN n) k7) (phiN n) (prodZ n (phiN n) (G i) r))
        case first =>
          have hbx := (HT.out.boxNew (.int .i64 (n : Int)) (.slice a8 (phiN n) k8) 28).box 0 _ rfl
          obtain ⟨x0, x1⟩ := hbx.cell2
          dsimp only at x0 x1
          go_region_law (first
            | (go_simp; go_at_call 141; refine HPW.out.mono ?_; rintro e w7 ⟨a7, k7, rfl, s7, b7⟩
               have s7' := s7.alloc (.cells #[.int .i64 (n : Int), .slice a7 (phiN n) k7] 28)
               have b7' := ((Below.refl (wr.alloc (.cells #[.int .i64 (n : Int), .slice a8 (phiN n) k8] 28)).heap.size (wr.alloc (.cells #[.int .i64 (n : Int), .slice a8 (phiN n) k8] 28))).drew.trans b7).alloc b7.size (.cells #[.int .i64 (n : Int), .slice a7 (phiN n) k7] 28))
            | (go_simp; go_at_call 141; refine HPA.out.mono ?_; rintro e w7 ⟨a7, k7, rfl, s7, b7⟩
               have b7' := (Below.refl ((wr.alloc (.cells #[.int .i64 (n : Int), .slice a8 (phiN n) k8] 28)).alloc (.cells #[.int .i64 0, .slice none 0 0] 28)).heap.size ((wr.alloc (.cells #[.int .i64 (n : Int), .slice a8 (phiN n) k8] 28)).alloc (.cells #[.int .i64 0, .slice none 0 0] 28))).drew.trans b7
               have bx7 := HZB.out.keep b7'
               simp only [World.size_alloc] at bx7
               obtain ⟨q0', q1'⟩ := bx7.cell2
               have qz' := bx7.2.2
               skip))
          all_goals
            go_wp2_with fail
            go_meet
            first
              | exact ⟨w7.heap.size, _, _, a7, k7, rfl, rfl, b7', Box.made2 rfl, s7'⟩
              | exact ⟨_, _, _, a7, k7, rfl, rfl, (((((Below.refl (wr.alloc (.cells #[.int .i64 (n : Int), .slice a8 (phiN n) k8] 28)).heap.size (wr.alloc (.cells #[.int .i64 (n : Int), .slice a8 (phiN n) k8] 28))).alloc (Nat.le_refl _) (.cells #[.int .i64 0, .slice none 0 0] 28)).trans (b7'.mono (by simp))).setCell (p := ⟨wr.heap.size + 1, 0, none⟩) (by simp) _).setCell (p := ⟨wr.heap.size + 1, 1, none⟩) (by simp) _), bx7.set2, (s7.setOther (.inl (by simp)) _).setOther (.inl (by simp)) _⟩
        case rest =>
          obtain ⟨b12, lo7, hi7, a7, k7, rfl, rfl, bel, bx, s7⟩ := hcut
          have hzc := bel.size
          simp only [World.size_alloc] at hzc
          have co := (CO.out.alloc (.cells #[.int .i64 (n : Int), .slice a8 (phiN n) k8] 28)).keep bel (Nat.le_refl _)
          have cn := (CN.out.alloc (.cells #[.int .i64 (n : Int), .slice a8 (phiN n) k8] 28)).keep bel (Nat.le_refl _)
          have s9 := (S9.out.alloc (.cells #[.int .i64 (n : Int), .slice a8 (phiN n) k8] 28)).keep bel (by have := S9.out.size; simp only [World.size_alloc]; omega)
          have s8 := (Q8.out.alloc (.cells #[.int .i64 (n : Int), .slice a8 (phiN n) k8] 28)).keep bel (by have := Q8.out.size; simp only [World.size_alloc]; omega)
          have st := (HT.out.boxNew (.int .i64 (n : Int)) (.slice a8 (phiN n) k8) 28).keep bel
          obtain ⟨x0, x1⟩ := (st.box 0 _ rfl).cell2
          obtain ⟨y0, y1⟩ := (st.box 1 _ rfl).cell2
          obtain ⟨t0, t1⟩ := bx.cell2
          dsimp only at x0 x1 y0 y1
          have CO1 := Lib.hid co
          have CN1 := Lib.hid cn
          have S91 := Lib.hid s9
          have S81 := Lib.hid s8
          have ST1 := Lib.hid st
          have S7 := Lib.hid s7
          clear co cn s9 s8 st bx s7 bel HPW HPA CO CN S9 HT Q8 HZB e0 e1 p0 p1 pz
          by_cases hS : Within (addF (-1) (bef G i) (prodZ n (phiN n) (G i) r)) (phiN n) 1000000000
          · have HAD := Lib.hid (AddCyclos_impl_ok n (-1) wc S91.out S7.out (HCY.out _ (HBW.out i him)) (HCY.out _ HP.out) (by omega) (by omega) hS)
            have HN := Lib.hid (show ∀ k, k < i + 1 → nxOk n G r k from fun k hk => by
              rcases Nat.lt_succ_iff_lt_or_eq.1 hk with h1 | rfl
              · exact HOK.out k h1
              · exact ⟨HP.out, hS⟩)
            clear hS
            go_wp2_with fail
            refine HAD.out.mono ?_
            rintro e w8 ⟨aw, kw, rfl, sw, b8⟩
            have hz8 := b8.size
            have co := CO1.out.keep b8 (Nat.le_refl _)
            have cn := CN1.out.keep b8 (Nat.le_refl _)
            have s8 := S81.out.keep b8 S81.out.size
            have st := ST1.out.keep b8
            have z0 := cn.z0 (by omega)
            have z1 := cn.z1 (by omega)
            have zf := cn.2.1
            obtain ⟨x2, x3⟩ := (st.box 0 _ rfl).cell2
            obtain ⟨y2, y3⟩ := (st.box 1 _ rfl).cell2
            have yz := (st.box 1 _ rfl).2.2
            dsimp only at x2 x3 y2 y3 yz
            have hdA : ∀ b ∈ [w4.heap.size + 1, w.heap.size + 1], b < wc.heap.size ∨ w8.heap.size ≤ b := by intro b hb; simp only [List.mem_cons, List.not_mem_nil, or_false] at hb; rcases hb with rfl | rfl <;> omega
            have hA9 := hd8 (w4.heap.size + 1) (by simp)
            have hAN := hd8 (w.heap.size + 1) (by simp)
            have PN := Lib.hid (((cn.push (u := .slice aw (phiN n) kw) (by simp) (by omega) (show Sl false w8 _ _ _ _ (nxt n G r m i) from by unfold nxt; rw [if_pos hlt]; exact sw.rd) hdA).setOther (b := w4.heap.size + 1) (o := 0) (by simp) (by omega) (.int .i64 (n : Int))).setOther (b := w4.heap.size + 1) (o := 1) (by simp) (by omega) (.slice a8 (phiN n) k8))
            have CO2 := Lib.hid ((((co.setOther (b := w.heap.size + 1) (o := i * 2) (by simp) (by omega) (.int .i64 (n : Int))).setOther (b := w.heap.size + 1) (o := i * 2 + 1) (by simp) (by omega) (.slice aw (phiN n) kw)).setOther (b := w4.heap.size + 1) (o := 0) (by simp) (by omega) (.int .i64 (n : Int))).setOther (b := w4.heap.size + 1) (o := 1) (by simp) (by omega) (.slice a8 (phiN n) k8))
            have S82 := Lib.hid (show Sl false _ l8 h8 (.slice a8 (phiN n) k8) (phiN n) (bef G (i + 1)) from by
              have q := (((s8.setOther (p := ⟨w.heap.size + 1, i * 2, none⟩) hAN (.int .i64 (n : Int))).setOther (p := ⟨w.heap.size + 1, i * 2 + 1, none⟩) hAN (.slice aw (phiN n) kw)).setOther (p := ⟨w4.heap.size + 1, 0, none⟩) hA9 (.int .i64 (n : Int))).setOther (p := ⟨w4.heap.size + 1, 1, none⟩) hA9 (.slice a8 (phiN n) k8)
              unfold bef
              rw [if_neg (Nat.succ_ne_zero _), Nat.add_sub_cancel]
              exact q)
            have ST2 := Lib.hid ((st.tailB.set2 (b := w.heap.size + 1) (i := i * 2) (j := i * 2 + 1) (u := .int .i64 (n : Int)) (v := .slice aw (phiN n) kw) (by omega) (by intro b hb; simp only [List.mem_cons, List.not_mem_nil, or_false] at hb; rcases hb with rfl <;> dsimp only <;> omega) (by intro s hs'; simp only [List.mem_cons, List.not_mem_nil, or_false] at hs'; rcases hs' with rfl <;> dsimp only <;> omega)).boxSet (u0 := .int .i64 (n : Int)) (u1 := .slice a8 (phiN n) k8) (by omega) (by intro b hb; cases hb) (by intro s hs'; simp only [List.mem_cons, List.not_mem_nil, or_false] at hs'; rcases hs' with rfl <;> dsimp only <;> omega))
            clear co cn s8 st CO1 CN1 S81 S91 ST1 S7 sw b8 HAD x0 x1 y0 y1 t0 t1
            go_wp2_with fail
            go_roundw
            case rel => exact ⟨i + 1, _, a8, k8, l8, h8, by omega, by go_num, CO2.out, PN.out, hA9, hAN, S82.out, HN.out, ST2.out⟩
            case measure => simp [intOf] <;> omega
          · have HAD := Lib.hid (AddCyclos_impl_big n (-1) wc S91.out S7.out (HCY.out _ (HBW.out i him)) (HCY.out _ HP.out) (by omega) (by omega) hS)
            have HN := Lib.hid (show ¬ stOk n G r m from fun h => hS (h i hlt).2)
            clear hS
            go_wp2_with fail
            refine HAD.out.mono ?_
            rintro e w8 ⟨rfl, b8⟩
            unfold failV
            have z0 := (CN1.out.z0 (by omega)).symm.trans (b8.cell (p := ⟨w.heap.size + 1, i * 2, none⟩) (by show w.heap.size + 1 < wc.heap.size; omega)).symm |>.symm
            have z1 := (CN1.out.z1 (by omega)).symm.trans (b8.cell (p := ⟨w.heap.size + 1, i * 2 + 1, none⟩) (by show w.heap.size + 1 < wc.heap.size; omega)).symm |>.symm
            have zf := ((CN1.out.keep b8 (Nat.le_refl _))).2.1
            have BB := (ST1.out.keep b8).1
            clear b8 ST1
            go_wp2_with fail
            go_ret2
            exact ⟨.inr ⟨HN.out, rfl⟩, by go_grown⟩
      · have HN := Lib.hid (show ¬ stOk n G r m from fun h => hP (h i hlt).1)
        have HPW := Lib.hid (productWithin_big n h1 h2 (wr.alloc (.cells #[.int .i64 (n : Int), .slice a8 (phiN n) k8] 28)).drew (q8.alloc (.cells #[.int .i64 (n : Int), .slice a8 (phiN n) k8] 28)).drew (qr.alloc (.cells #[.int .i64 (n : Int), .slice a8 (phiN n) k8] 28)).drew (Within.big (HGW.out i hlt)) HRW.out hp0 hp (Nat.le_refl _) HRZ.out hP)
        have HPA := Lib.hid (productWithin_big n h1 h2 ((wr.alloc (.cells #[.int .i64 (n : Int), .slice a8 (phiN n) k8] 28)).alloc (.cells #[.int .i64 0, .slice none 0 0] 28)).drew ((q8.alloc (.cells #[.int .i64 (n : Int), .slice a8 (phiN n) k8] 28)).alloc (.cells #[.int .i64 0, .slice none 0 0] 28)).drew ((qr.alloc (.cells #[.int .i64 (n : Int), .slice a8 (phiN n) k8] 28)).alloc (.cells #[.int .i64 0, .slice none 0 0] 28)).drew (Within.big (HGW.out i hlt)) HRW.out hp0 hp (Nat.le_refl _) HRZ.out hP)
        clear hP qr q8
        go_wp2_with fail
        go_cut [12, 13] from 27 to 54 (fun s12 s13 wx => ∃ (b12 : Nat), s12 = .pointer (some ⟨b12, 0, none⟩) ∧ s13 = .int .i64 3 ∧ Below w.heap.size w wx)
        case first =>
          have hbx := (HT.out.boxNew (.int .i64 (n : Int)) (.slice a8 (phiN n) k8) 28).box 0 _ rfl
          have BB := (HT.out.alloc (.cells #[.int .i64 (n : Int), .slice a8 (phiN n) k8] 28)).1
          obtain ⟨x0, x1⟩ := hbx.cell2
          dsimp only at x0 x1
          go_region_law (first
            | (go_simp; go_at_call 141; refine HPW.out.mono ?_; rintro e w7 ⟨rfl, b7⟩
               unfold failV
               have b7' := ((Below.refl (wr.alloc (.cells #[.int .i64 (n : Int), .slice a8 (phiN n) k8] 28)).heap.size (wr.alloc (.cells #[.int .i64 (n : Int), .slice a8 (phiN n) k8] 28))).drew.trans b7).alloc b7.size (.cells #[.int .i64 0, .slice none 0 0] 28))
            | (go_simp; go_at_call 141; refine HPA.out.mono ?_; rintro e w7 ⟨rfl, b7⟩
               unfold failV
               have b7' := (Below.refl ((wr.alloc (.cells #[.int .i64 (n : Int), .slice a8 (phiN n) k8] 28)).alloc (.cells #[.int .i64 0, .slice none 0 0] 28)).heap.size ((wr.alloc (.cells #[.int .i64 (n : Int), .slice a8 (phiN n) k8] 28)).alloc (.cells #[.int .i64 0, .slice none 0 0] 28))).drew.trans b7
               have bx7 := HZB.out.keep b7'
               simp only [World.size_alloc] at bx7
               obtain ⟨q0', q1'⟩ := bx7.cell2
               have qz' := bx7.2.2
               skip))
          all_goals
            go_wp2_with fail
            go_meet
            first
              | exact ⟨w7.heap.size, rfl, rfl, BB.trans (b7'.mono BB.size)⟩
              | exact ⟨_, rfl, rfl, BB.trans ((((((Below.refl (wr.alloc (.cells #[.int .i64 (n : Int), .slice a8 (phiN n) k8] 28)).heap.size (wr.alloc (.cells #[.int .i64 (n : Int), .slice a8 (phiN n) k8] 28))).alloc (Nat.le_refl _) (.cells #[.int .i64 0, .slice none 0 0] 28)).trans (b7'.mono (by simp))).setCell (p := ⟨wr.heap.size + 1, 0, none⟩) (by simp) _).setCell (p := ⟨wr.heap.size + 1, 1, none⟩) (by simp) _).mono BB.size)⟩
        case rest =>
          obtain ⟨b12, rfl, rfl, bel⟩ := hcut
          clear HPW HPA CO CN S9 HT HZB e0 e1 p0 p1 pz
          go_wp2_with fail
          go_ret2
          exact ⟨.inr ⟨HN.out, rfl⟩, bel⟩
    · obtain rfl : i = m := by omega
      have z0 := CN.out.z0 (Nat.lt_succ_self _)
      have z1 := CN.out.z1 (Nat.lt_succ_self _)
      have zf := CN.out.2.1
      have PN := Lib.hid (CN.out.push (u := .slice a9 (phiN n) k9) (by simp) (Nat.lt_succ_self _) (show Sl false wr lo hi _ _ (nxt n G r i i) from by unfold nxt; rw [if_neg (Nat.lt_irrefl _)]; exact S9.out) (by intro b hb; simp only [List.mem_cons, List.not_mem_nil, or_false] at hb; rcases hb with rfl | rfl <;> omega))
      have BB := (HT.out.1.setCell (p := ⟨w.heap.size + 1, i * 2, none⟩) (by show w.heap.size ≤ w.heap.size + 1; omega) (.int .i64 (n : Int))).setCell (p := ⟨w.heap.size + 1, i * 2 + 1, none⟩) (by show w.heap.size ≤ w.heap.size + 1; omega) (.slice a9 (phiN n) k9)
      clear HT CN
      go_wp2_with fail
      go_ret2
      exact ⟨.inl ⟨HOK.out, _, rfl, _, PN.out.less⟩, BB⟩
end

section
open Go.RowKit Go.ChangeShapes Go.Sort
set_option linter.unusedVariables false
set_option linter.unusedSimpArgs false

set_option maxRecDepth 100000 in
set_option maxHeartbeats 4000000 in
theorem polynomialWithRoots_any (n : Nat) (h1 : 1 ≤ n) (h2 : n ≤ 16) (w : World) {base g cap t : Nat} {A : Nat → Nat → Int} (ht : t ≤ 12) (hR : RowE w base 101 12 g cap t (fun k => arrL (A k)))
    (hA : ∀ k, k < t → Within (A k) 12 12000000000) (hz : ∀ k, k < t → ∀ j, phiN n ≤ j → j < 12 → A k j = 0) :
    Calls Try.prog 126 #[.int .i64 (n : Int), .slice (some ⟨g, 0, none⟩) t cap] w fun e w' => ((plOk n A t ∧ ∃ a' k', e = .returned (.tuple #[.slice a' (t + 1) k', .int .i64 0]) ∧ Sl true w' w.heap.size w'.heap.size (.slice a' (t + 1) k') (t + 1) (fun k => plZ n A t k 0)) ∨ (¬ plOk n A t ∧ e = .returned (.tuple #[.slice none 0 0, .int .i64 3]))) ∧ Below w.heap.size w w' := by
  have hp := phi_le12 n h2 h1
  have hp0 := phiN_pos n (by omega) h1
  have HA := Lib.hid hA
  have HZ := Lib.hid hz
  have HR := Lib.hid hR
  have hgl := hR.lt
  clear hA hz hR
  have hmk2 := run_make_row' (P := Try.prog) 22 2 (.int .i64 0) 8 Try.underlying22 Try.info2 rfl .i64 .i64 (t + 1) (by omega) (by omega)
  have HMK := Lib.hid hmk2
  clear hmk2
  go_enter Try.func126, Try.ntmps126
  go_wp2_with fail
  refine (oneOf_any n h1 h2 _).mono ?_
  rintro e w1 ⟨a1, k1, rfl, s1, b1⟩
  have hz1 := b1.size
  have C1 := Lib.hid (show CL _ w1.heap.size 1 1 n (phiN n) (fun _ => .slice a1 (phiN n) k1) (plZ n A 0) [] from CL.one w1 28 n (phiN n) s1.rd)
  have R1 := Lib.hid ((HR.out.keep b1 (Nat.le_refl _)).alloc (.cells #[.int .i64 (n : Int), .slice a1 (phiN n) k1] 28))
  have B1 := Lib.hid (b1.alloc hz1 (.cells #[.int .i64 (n : Int), .slice a1 (phiN n) k1] 28))
  clear HR s1 b1
  go_wp2
  go_loopw [6, 7, 8] (fun s6 s7 s8 wr => ∃ i : Nat, i ≤ t ∧ s8 = .int .i64 (i : Int) ∧ ((plOk n A i ∧ s7 = .int .i64 0 ∧ ∃ (g' cap' : Nat) (vs : Nat → Value), s6 = .slice (some ⟨g', 0, none⟩) (i + 1) cap' ∧ CL wr g' (i + 1) (i + 1) n (phiN n) vs (plZ n A i) [] ∧ RowE wr base 101 12 g cap t (fun k => arrL (A k)) ∧ Below w.heap.size w wr) ∨ (¬ plOk n A t ∧ s7 = .int .i64 3 ∧ Below w.heap.size w wr))) (fun _ s7 s8 _ => t - (intOf s8).toNat)
  case atStart => exact ⟨0, Nat.zero_le _, rfl, .inl ⟨plOk_zero _ _, rfl, _, _, _, rfl, C1.out, R1.out, B1.out⟩⟩
  case round =>
    clear C1 R1 B1
    obtain ⟨i, hi, rfl, hr⟩ := hrel
    rcases hr with ⟨hok, rfl, g', cap', vs, rfl, hcl, hrow, hB⟩ | ⟨hbad, rfl, hB⟩
    · have C := Lib.hid hcl; clear hcl
      have R := Lib.hid hrow; clear hrow
      have BB := Lib.hid hB; clear hB
      have HOK := Lib.hid hok; clear hok
      by_cases hlt : i < t
      · have hi2 : (i : Int) < (t : Int) := by omega
        have e0 := R.out.cell (fun _ => arrL_len _) (i := i) (j := 0) hlt (by omega)
        have e1 := R.out.cell (fun _ => arrL_len _) (i := i) (j := 1) hlt (by omega)
        have e2 := R.out.cell (fun _ => arrL_len _) (i := i) (j := 2) hlt (by omega)
        have e3 := R.out.cell (fun _ => arrL_len _) (i := i) (j := 3) hlt (by omega)
        have e4 := R.out.cell (fun _ => arrL_len _) (i := i) (j := 4) hlt (by omega)
        have e5 := R.out.cell (fun _ => arrL_len _) (i := i) (j := 5) hlt (by omega)
        have e6 := R.out.cell (fun _ => arrL_len _) (i := i) (j := 6) hlt (by omega)
        have e7 := R.out.cell (fun _ => arrL_len _) (i := i) (j := 7) hlt (by omega)
        have e8 := R.out.cell (fun _ => arrL_len _) (i := i) (j := 8) hlt (by omega)
        have e9 := R.out.cell (fun _ => arrL_len _) (i := i) (j := 9) hlt (by omega)
        have e10 := R.out.cell (fun _ => arrL_len _) (i := i) (j := 10) hlt (by omega)
        have e11 := R.out.cell (fun _ => arrL_len _) (i := i) (j := 11) hlt (by omega)
        have HL := Lib.hid (listWithRoot_any n h1 h2 (i + 1) (by omega) (by omega) wr (cap := cap') C.out (HA.out i hlt) (HZ.out i hlt) (plZ_within HOK.out))
        generalize hGe : A i = AA at e0 e1 e2 e3 e4 e5 e6 e7 e8 e9 e10 e11 HL
        unfold arrV at HL
        simp only [arrL, arrC, Nat.add_zero, List.getElem?_cons_zero, List.getElem?_cons_succ] at e0 e1 e2 e3 e4 e5 e6 e7 e8 e9 e10 e11
        go_wp2_with fail
        refine HL.out.mono ?_
        subst hGe
        rintro e w2 ⟨⟨hso, g2, vs2, rfl, c2⟩ | ⟨hso, rfl⟩, b2⟩
        · have C2 := Lib.hid c2
          have R2 := Lib.hid (R.out.keep b2 (Nat.le_refl _))
          have B2 := Lib.hid (BB.out.trans (b2.mono BB.out.size))
          have HN := Lib.hid (plOk_succ HOK.out hso)
          clear c2 b2 hso e0 e1 e2 e3 e4 e5 e6 e7 e8 e9 e10 e11 HL C R
          go_wp2_with fail
          go_roundw
          case rel => exact ⟨i + 1, by omega, by go_num, .inl ⟨HN.out, rfl, g2, _, vs2, rfl, C2.out, R2.out, B2.out⟩⟩
          case measure => simp [intOf] <;> omega
        · have B2 := Lib.hid (BB.out.trans (b2.mono BB.out.size))
          have HN := Lib.hid (show ¬ plOk n A t from fun h => hso (h i hlt))
          clear b2 hso e0 e1 e2 e3 e4 e5 e6 e7 e8 e9 e10 e11 HL C R
          go_wp2_with fail
          go_roundw
          case rel => exact ⟨i + 1, by omega, by go_num, .inr ⟨HN.out, rfl, B2.out⟩⟩
          case measure => simp [intOf] <;> omega
      · obtain rfl : i = t := by omega
        obtain ⟨wp, hwp⟩ : ∃ x : World, x = wr := ⟨_, rfl⟩
        subst hwp
        have hmk : ∀ w : World, (Instr.makeSlice 22 (.int .i64 ((i : Int) + 1)) (.int .i64 ((i : Int) + 1))).run Try.prog w = .ok (.slice (some ⟨w.heap.size, 0, none⟩) (i + 1) (i + 1)) (w.alloc (.cells (madeCells #[.int .i64 0] (i + 1)) 2)) := fun w => HMK.out w
        have q0 := Lib.hid (Sl.made wp (madeCells #[.int .i64 0] (i + 1)) 2 (i + 1) (i + 1) (fun _ => 0) (Nat.le_refl _) (by unfold maxLen; omega) (fun _ _ => by simp [inR]) (fun j hj => madeCells_at _ _ _ hj))
        have c0 := Lib.hid ((C.out.more (b := wp.heap.size) (Nat.le_refl _)).alloc (.cells (madeCells #[.int .i64 0] (i + 1)) 2))
        have hgw := C.out.1
        have hzr := BB.out.size
        have bb0 := Lib.hid (BB.out.alloc BB.out.size (.cells (madeCells #[.int .i64 0] (i + 1)) 2))
        have HPW := Lib.hid (plZ_within HOK.out)
        clear C R BB HMK
        go_wp2_with fail
        go_loopw [43] (fun s43 wx => ∃ k : Nat, k ≤ i + 1 ∧ s43 = .int .i64 (k : Int) ∧ CL wx g' (i + 1) (i + 1) n (phiN n) vs (plZ n A i) [wp.heap.size] ∧ Sl true wx wp.heap.size (wp.heap.size + 1) (.slice (some ⟨wp.heap.size, 0, none⟩) (i + 1) (i + 1)) (i + 1) (fun j => if j < k then plZ n A i j 0 else 0) ∧ Below w.heap.size w wx) (fun s43 _ => i + 1 - (intOf s43).toNat)
        case atStart => exact ⟨0, Nat.zero_le _, rfl, c0.out, q0.out.congr (fun j hj => by rw [if_neg (Nat.not_lt_zero _)]), bb0.out⟩
        case round =>
          clear q0 c0 bb0 hmk
          obtain ⟨k, hk, rfl, hcl, hown, hB⟩ := hrel
          have C := Lib.hid hcl; clear hcl
          have HO := Lib.hid hown; clear hown
          have BB := Lib.hid hB; clear hB
          by_cases hlk : k < i + 1
          · have hk2 : (k : Int) < (i : Int) + 1 := by omega
            have hpi : (0 : Int) < (phiN n : Int) := by omega
            have hpn : 0 < phiN n := by omega
            have hwb : wp.heap.size < wr.heap.size := by have := HO.out.size; omega
            have hgb := C.out.1
            have d0 := C.out.c0 hlk
            have d1 := C.out.c1 hlk
            obtain ⟨l8, h8, hd8, q8⟩ := C.out.2.2.2 k hlk
            have hpb := HPW.out k hlk 0 hp0
            obtain ⟨g8, o8, c8, hv8, hl8, hg8, _, _, hc8, _⟩ := q8.at (by omega)
            rw [hv8] at d1
            have f0 := hc8 0 (by omega)
            rw [Nat.add_zero] at f0
            have u0 := (HO.out.known (by omega)).2.2.2.1 k hlk
            have uz := (HO.out.known (by omega)).2.2.2.2 rfl k
            rw [Nat.zero_add] at u0
            have hbl := World.block_lt_of_cell? _ _ f0
            have S2 := Lib.hid ((HO.out.store (i := k) (x := plZ n A i k 0) hlk (by unfold inR; omega)).alloc (.cells #[.int .i64 (n : Int), .slice (some ⟨g8, o8, none⟩) (phiN n) c8] 28))
            have C2 := Lib.hid ((C.out.setOther (b := wp.heap.size) (o := k) (by simp) (by omega) (.int .i64 (plZ n A i k 0))).alloc (.cells #[.int .i64 (n : Int), .slice (some ⟨g8, o8, none⟩) (phiN n) c8] 28))
            have B2 := Lib.hid ((BB.out.setCell (p := ⟨wp.heap.size, k, none⟩) hzr (.int .i64 (plZ n A i k 0))).alloc (by simpa [World.setCell] using BB.out.size) (.cells #[.int .i64 (n : Int), .slice (some ⟨g8, o8, none⟩) (phiN n) c8] 28))
            rw [Nat.zero_add] at S2
            clear hv8 hc8 q8 C HO BB
            dsimp only at hbl
            go_wp2_with fail
            go_roundw
            case rel => exact ⟨k + 1, by omega, by go_num, C2.out, S2.out.congr (fun j hj => by
              by_cases e : j = k
              · subst e; rw [if_pos (Nat.lt_succ_self _), if_pos rfl]
              · rw [if_neg e]
                by_cases e2 : j < k
                · rw [if_pos e2, if_pos (by omega)]
                · rw [if_neg e2, if_neg (by omega)]), B2.out⟩
            case measure => simp [intOf] <;> omega
          · obtain rfl : i + 1 = k := by omega
            go_wp2_with fail
            go_ret2
            exact ⟨.inl ⟨HOK.out, _, _, rfl, (HO.out.congr (fun j hj => by rw [if_pos hj])).wide hzr HO.out.size (Nat.le_refl _)⟩, BB.out⟩
    · have BB := Lib.hid hB; clear hB
      have HN := Lib.hid hbad; clear hbad
      by_cases hlast : i < t
      · go_wp2_with fail
        go_ret2
        exact ⟨.inr ⟨HN.out, rfl⟩, BB.out⟩
      · go_wp2_with fail
        go_ret2
        exact ⟨.inr ⟨HN.out, rfl⟩, BB.out⟩
end

section
open Go.RowKit Go.ChangeShapes Go.Sort
set_option linter.unusedVariables false
set_option linter.unusedSimpArgs false

/-- Whether one of the first q images is the one at the place i. -/
def knownB (n L : Nat) (f : Nat → Int) (i : Nat) : Nat → Bool
  | 0 => false
  | q + 1 => knownB n L f i q || eqB (phiN n) (im n L f q) (im n L f i)
/-- How many of the first images are there first. -/
def degTo (n L : Nat) (f : Nat → Int) : Nat → Nat
  | 0 => 0
  | i + 1 => degTo n L f i + if knownB n L f i i then 0 else 1
theorem degTo_le (n L : Nat) (f : Nat → Int) : ∀ i, degTo n L f i ≤ i
  | 0 => Nat.le_refl _
  | i + 1 => by have := degTo_le n L f i; show degTo n L f i + _ ≤ i + 1; split <;> omega
theorem degTo_yes {n L : Nat} {f : Nat → Int} {i : Nat} (h : knownB n L f i i = false) : degTo n L f (i + 1) = degTo n L f i + 1 := by show _ + _ = _; rw [h]; rfl
theorem degTo_no {n L : Nat} {f : Nat → Int} {i : Nat} (h : knownB n L f i i = true) : degTo n L f (i + 1) = degTo n L f i := by show _ + _ = _; rw [h]; rfl

section
variable {o : Bool} {lo hi L : Nat} {v : Value} {f : Nat → Int}
theorem DegreeOf_spec_bad (x : Int) (w : World) (hs : Sl o w lo hi v L f) (h : ¬ CyP x L f) :
    Calls Try.prog 88 #[.agg #[.int .i64 x, v]] w fun e w' => e = .returned (.tuple #[.int .i64 0, .int .i64 1]) ∧ Below w.heap.size w w' := by
  obtain ⟨av, cap, rfl⟩ := hs.shape
  have st0 := ((((St.start w).addSl ⟨o, lo, hi, .slice av L cap, L, f⟩ hs).alloc (.cells #[.int .i64 x, .slice av L cap] 28)).addBox w.heap.size [.int .i64 x, .slice av L cap] (Box.made _ _ _ _ (fun j v h => by simpa using h)))
  have q0 := st0.sl 0 ⟨o, lo, hi, .slice av L cap, L, f⟩ rfl
  dsimp only at q0
  have HC := Lib.hid h
  clear h hs
  go_enter Try.func88, Try.ntmps88
  go_wp2_with fail
  refine (l01Is_no _ _ q0 HC.out).mono ?_
  rintro e w1 ⟨rfl, b1⟩
  clear q0
  have st1 := st0.keep b1
  have hz_w1 := b1.size
  try simp only [World.size_alloc] at hz_w1
  clear st0 b1
  have BB := st1.1
  go_wp2
  refine bodyPost_ret (v := .tuple #[.int .i64 0, .int .i64 1]) (by simp [results, Try.results88, go_sem]) rfl ?_
  exact ⟨rfl, BB⟩

set_option maxRecDepth 100000 in
set_option maxHeartbeats 4000000 in
theorem DegreeOf_spec_ok (n : Nat) (w : World) (hs : Sl o w lo hi v L f) (h : CyP n L f) :
    Calls Try.prog 88 #[.agg #[.int .i64 (n : Int), v]] w fun e w' => e = .returned (.tuple #[.int .i64 (degTo n L f (phiN n) : Int), .int .i64 0]) ∧ Below w.heap.size w w' := by
  obtain ⟨av, cap, rfl⟩ := hs.shape
  have hn1 : 1 ≤ n := by have := h.1; omega
  have hn2 : n ≤ 16 := by have := h.2.1; omega
  have hp := phi_le12 n hn2 hn1
  have hL : L ≤ 12 := by have e : L = phiN n := h.2.2.1; omega
  have hpos : 0 < L := by have e : L = phiN n := h.2.2.1; have := phiN_pos n (by omega) hn1; omega
  have hhs := hs.size
  have st0 := ((((St.start w).addSl ⟨o, lo, hi, .slice av L cap, L, f⟩ hs).alloc (.cells #[.int .i64 (n : Int), .slice av L cap] 28)).addBox w.heap.size [.int .i64 (n : Int), .slice av L cap] (Box.made _ _ _ _ (fun j v h => by simpa using h)))
  have q0 := st0.sl 0 ⟨o, lo, hi, .slice av L cap, L, f⟩ rfl
  dsimp only at q0
  have HC := Lib.hid h
  clear h hs
  go_enter Try.func88, Try.ntmps88
  go_wp2_with fail
  refine (l01Is_yes _ _ q0 HC.out).mono ?_
  rintro e w1 ⟨rfl, b1⟩
  clear q0
  have st1 := st0.keep b1
  have hz_w1 := b1.size
  try simp only [World.size_alloc] at hz_w1
  clear st0 b1
  obtain ⟨c0, c1⟩ := (st1.box 0 (w.heap.size, [.int .i64 (n : Int), .slice av L cap]) rfl).cell2
  have q0 := st1.sl 0 ⟨o, lo, hi, .slice av L cap, L, f⟩ rfl
  dsimp only at q0
  go_wp2_with fail
  refine (l02Images_any n hn1 hn2 _ q0 (by omega)).mono ?_
  rintro e w2 ⟨g, cap2, g2, cap3, vs, rfl, r2, s2, n2, hne, b2⟩
  have hz2 := b2.size
  have ST2 := Lib.hid (st1.keep b2)
  have R2 := Lib.hid r2
  have S2 := Lib.hid s2
  clear st1 b2 r2 s2 n2 q0 c0 c1
  go_wp2
  go_loopw [6, 7] (fun s6 s7 wr => ∃ i : Nat, i ≤ phiN n ∧ s6 = .int .i64 (degTo n L f i : Int) ∧ s7 = .int .i64 i ∧ RowE wr w1.heap.size 28 2 g cap2 (phiN n) (fun k => [.int .i64 (n : Int), vs k]) ∧ Sls wr w1.heap.size g g2 (phiN n) (phiN n) vs (im n L f) ∧ St w wr [(w.heap.size, [.int .i64 (n : Int), .slice av L cap])] [⟨o, lo, hi, .slice av L cap, L, f⟩]) (fun _ s7 _ => phiN n - (intOf s7).toNat)
  case atStart => exact ⟨0, Nat.zero_le _, rfl, rfl, R2.out, S2.out, ST2.out⟩
  case round =>
    clear R2 S2 ST2
    obtain ⟨i, hi9, rfl, rfl, hr, hsl, hst⟩ := hrel
    have HT := Lib.hid hst; clear hst
    have R1 := Lib.hid hr; clear hr
    have SS := Lib.hid hsl; clear hsl
    have hdl := degTo_le n L f i
    by_cases hlt : i < phiN n
    · have hi2 : (i : Int) < (phiN n : Int) := by omega
      go_wp2
      go_loopw [8, 9] (fun s8 s9 wx => ∃ q : Nat, q ≤ i ∧ s8 = .bool (knownB n L f i q) ∧ s9 = .int .i64 q ∧ RowE wx w1.heap.size 28 2 g cap2 (phiN n) (fun k => [.int .i64 (n : Int), vs k]) ∧ Sls wx w1.heap.size g g2 (phiN n) (phiN n) vs (im n L f) ∧ St w wx [(w.heap.size, [.int .i64 (n : Int), .slice av L cap])] [⟨o, lo, hi, .slice av L cap, L, f⟩]) (fun _ s9 _ => i - (intOf s9).toNat)
      case atStart => exact ⟨0, Nat.zero_le _, rfl, rfl, R1.out, SS.out, HT.out⟩
      case round =>
        clear R1 SS HT
        obtain ⟨q, hq, rfl, rfl, hr, hsl, hst⟩ := hrel
        have HT := Lib.hid hst; clear hst
        have R1 := Lib.hid hr; clear hr
        have SS := Lib.hid hsl; clear hsl
        by_cases hlq : q < i
        · have hq2 : (q : Int) < (i : Int) := by omega
          have hq3 : (q : Int) < (phiN n : Int) := by omega
          have HKN := Lib.hid (show knownB n L f i (q + 1) = (knownB n L f i q || eqB (phiN n) (im n L f q) (im n L f i)) from rfl)
          cases hk : knownB n L f i q with
          | true =>
            have HK := Lib.hid hk
            clear hk
            go_wp2
            go_quiet (fail)
            go_wp2
            go_roundw
            case rel => exact ⟨q + 1, by omega, by rw [HKN.out, HK.out]; rfl, by go_num, R1.out.drewN _, (SS.out.keep (below_drewN (Below.refl _ _) _) (Nat.le_refl _)), HT.out.drewN _⟩
            case measure => simp [intOf] <;> omega
          | false =>
            have HK := Lib.hid hk
            clear hk
            have a0 := R1.out.cell (fun _ => rfl) (i := q) (j := 0) (by omega) (by omega)
            have a1 := R1.out.cell (fun _ => rfl) (i := q) (j := 1) (by omega) (by omega)
            have e0 := R1.out.cell (fun _ => rfl) (i := i) (j := 0) hlt (by omega)
            have e1 := R1.out.cell (fun _ => rfl) (i := i) (j := 1) hlt (by omega)
            simp only [Nat.add_zero, List.getElem?_cons_zero, List.getElem?_cons_succ] at a0 a1 e0 e1
            obtain ⟨l1, h1, _, _, _, hv1⟩ := SS.out q (by omega)
            obtain ⟨l2, h2, _, _, _, hv2⟩ := SS.out i hlt
            have HSM := Lib.hid (l01Same_any (n : Int) wr.drew hv1.drew hv2.drew)
            clear hv1 hv2
            go_wp2_with fail
            go_region_law (first
              | (go_simp; go_at_call 184; refine HSM.out.mono ?_; rintro e w8 ⟨rfl, b8⟩))
            all_goals
              have hz8 := b8.size
              have R8 := Lib.hid ((R1.out.drewN 1).keep b8 (Nat.le_refl _))
              have S8 := Lib.hid (SS.out.keep ((Below.refl wr.heap.size wr).drew.trans b8) (Nat.le_refl _))
              have T8 := Lib.hid (HT.out.drew.keep b8)
              clear b8 R1 SS HT a0 a1 e0 e1
              go_wp2
              go_roundw
              case rel => exact ⟨q + 1, by omega, by rw [HKN.out, HK.out]; rfl, by go_num, R8.out, S8.out, T8.out⟩
              case measure => simp [intOf] <;> omega
        · obtain rfl : q = i := by omega
          cases hk : knownB n L f q q with
          | true =>
            have HD := Lib.hid (degTo_no hk)
            clear hk
            go_wp2
            go_roundw
            case rel => exact ⟨q + 1, by omega, by rw [HD.out], by go_num, R1.out, SS.out, HT.out⟩
            case measure => simp [intOf] <;> omega
          | false =>
            have HD := Lib.hid (degTo_yes hk)
            clear hk
            go_wp2
            go_roundw
            case rel => exact ⟨q + 1, by omega, by rw [HD.out]; go_num, by go_num, R1.out, SS.out, HT.out⟩
            case measure => simp [intOf] <;> omega
    · obtain rfl : i = phiN n := by omega
      have BB := HT.out.1
      go_wp2
      go_ret2
      exact ⟨rfl, BB⟩

end
end

section
open Go.RowKit Go.ChangeShapes Go.Sort Go.Maps Go.WideMaps
set_option linter.unusedVariables false
set_option linter.unusedSimpArgs false

theorem keys_laid : laidOutB Try.prog = true := by kernel_rfl
theorem keys_row : (101 : TypeId) < Try.prog.types.size := of_decide_eq_true (by kernel_rfl)
theorem keys_wide : (match Try.prog.underlying 101 with | some (.array _ _) | some (.struct _) => true | _ => false) = true := by rw [Try.underlying101]
set_option maxRecDepth 100000 in
theorem keys_law : KeyLaw Try.prog 101 := deep_law_laid keys_laid (m := 2) (by omega) keys_row (by kernel_rfl) keys_wide
theorem keys_keyed : Keyed Try.prog 101 := Keyed.of_law keys_law
theorem keys_cells : Try.prog.cellsOf 101 = 12 := by kernel_rfl
theorem keys_cells1 : Try.prog.cellsOf 2 = 1 := by kernel_rfl
theorem keys_type : Try.prog.keyType 101 = true := by kernel_rfl
theorem keys_size : ∃ d, Try.prog.types.size + 1 = d + 2 := ⟨Try.prog.types.size - 1, by have : 1 ≤ Try.prog.types.size := of_decide_eq_true (by kernel_rfl); omega⟩
theorem wf_int {x : Int} (h : inR x) : (Lit.int .i64 x).wf = true := by
  unfold inR at h
  have h1 : IntKind.i64.min = -9223372036854775808 := by decide
  have h2 : IntKind.i64.max = 9223372036854775807 := by decide
  simp only [Lit.wf, h1, h2, Bool.and_eq_true, decide_eq_true_eq]
  exact h
/-- An array of numbers is a key. -/
theorem key_arr (F : Nat → Int) (h : ∀ j, j < 12 → inR (F j)) : ∃ l, keyOf Try.prog 101 (arrV F) = some l := by
  obtain ⟨d, hd⟩ := keys_size
  have hl : ∃ ls, Try.prog.keyLits (d + 2) 101 (arrC F).toList = some ls := by
    have hone : ∀ i, i < 12 → Try.prog.keyLits (d + 1) 2 (((arrC F).toList.drop (i * Try.prog.cellsOf 2)).take (Try.prog.cellsOf 2)) = some [.int .i64 (F i)] := by
      intro i hi
      rw [keys_cells1]
      have e : ((arrC F).toList.drop (i * 1)).take 1 = [.int .i64 (F i)] := by
        have : i = 0 ∨ i = 1 ∨ i = 2 ∨ i = 3 ∨ i = 4 ∨ i = 5 ∨ i = 6 ∨ i = 7 ∨ i = 8 ∨ i = 9 ∨ i = 10 ∨ i = 11 := by omega
        rcases this with rfl | rfl | rfl | rfl | rfl | rfl | rfl | rfl | rfl | rfl | rfl | rfl <;> rfl
      rw [e]
      simp only [Program.keyLits, Try.underlying2]
      first | rw [if_pos ⟨trivial, wf_int (h i hi)⟩] | rw [if_pos (wf_int (h i hi))] | simp [wf_int (h i hi)]
    refine ⟨((List.range 12).map (fun i => [Lit.int .i64 (F i)])).flatten, ?_⟩
    unfold Program.keyLits
    simp only [Try.underlying101]
    rw [if_pos (by rw [keys_cells]; rfl)]
    have hm : (List.range 12).mapM (fun i => Try.prog.keyLits (d + 1) 2 (((arrC F).toList.drop (i * Try.prog.cellsOf 2)).take (Try.prog.cellsOf 2))) = some ((List.range 12).map (fun i => [Lit.int .i64 (F i)])) := by
      rw [show (List.range 12) = [0, 1, 2, 3, 4, 5, 6, 7, 8, 9, 10, 11] from rfl]
      simp only [List.mapM_cons, List.mapM_nil, hone 0 (by omega), hone 1 (by omega), hone 2 (by omega), hone 3 (by omega), hone 4 (by omega), hone 5 (by omega), hone 6 (by omega), hone 7 (by omega), hone 8 (by omega), hone 9 (by omega), hone 10 (by omega), hone 11 (by omega)]
      rfl
    rw [hm]
    rfl
  obtain ⟨ls, hls⟩ := hl
  refine ⟨.string (keyBytes ls), ?_⟩
  unfold keyOf
  simp only [Try.underlying101]
  rw [if_pos (by rw [keys_type]; show (true && (Value.agg (arrC F)).formed Try.prog 101) = true; simp [Value.formed, Try.underlying101, keys_cells, arrC])]
  rw [hd]
  show Option.map _ (Try.prog.keyLits (d + 2) 101 (arrC F).toList) = _
  rw [hls]
  rfl
theorem arrV_inj {F G : Nat → Int} (h : arrV F = arrV G) : ∀ j, j < 12 → F j = G j := by
  intro j hj
  have h2 : arrC F = arrC G := by unfold arrV at h; unfold arrC; injection h
  have h3 := congrArg (fun a => a[j]?) h2
  simp only [arrC_get _ _ hj] at h3
  injection h3 with h4
  injection h4

section
variable {H : Type}
/-- Two keys that differ. -/
def Many (es : List (Lit × DataW H)) : Prop := ∃ p ∈ es, ∃ q ∈ es, p.1 ≠ q.1
theorem same_str {a b : Lit} (ha : ∃ s, a = .string s) (hb : ∃ s, b = .string s) : a.sameKey b = true ↔ a = b := by
  obtain ⟨s, rfl⟩ := ha
  obtain ⟨t, rfl⟩ := hb
  simp [Lit.sameKey]
theorem many_size {es : List (Lit × DataW H)} (h : Many es) : es.length ≠ 1 := by
  obtain ⟨p, hp, q, hq, hne⟩ := h
  intro e
  match es, e with
  | [x], _ =>
    simp only [List.mem_singleton] at hp hq
    subst hp; subst hq
    exact hne rfl
theorem mem_put {k : Lit} {d : DataW H} {es : List (Lit × DataW H)} {p : Lit × DataW H} : p ∈ DataW.insert (k, d) (es.filter fun p => !p.1.sameKey k) ↔ p = (k, d) ∨ (p ∈ es ∧ p.1.sameKey k = false) := by
  rw [ChangeMaps.mem_insert_iff]
  simp [List.mem_filter]
theorem many_put {k : Lit} {d : DataW H} {es : List (Lit × DataW H)} (hk : ∃ s, k = .string s) (hs : ∀ p ∈ es, ∃ s, p.1 = .string s) (h : Many es) : Many (DataW.insert (k, d) (es.filter fun p => !p.1.sameKey k)) := by
  obtain ⟨p, hp, q, hq, hne⟩ := h
  by_cases hpk : p.1 = k
  · refine ⟨q, mem_put.2 (.inr ⟨hq, ?_⟩), (k, d), mem_put.2 (.inl rfl), fun e => hne (by rw [hpk]; exact e.symm)⟩
    rw [Bool.eq_false_iff]
    exact fun e => hne (by rw [hpk]; exact ((same_str (hs q hq) hk).1 e).symm)
  · refine ⟨p, mem_put.2 (.inr ⟨hp, ?_⟩), (k, d), mem_put.2 (.inl rfl), hpk⟩
    rw [Bool.eq_false_iff]
    exact fun e => hpk ((same_str (hs p hp) hk).1 e)
theorem one_put {k k0 : Lit} {d d0 : DataW H} (hk : ∃ s, k = .string s) (hk0 : ∃ s, k0 = .string s) (hne : k0 ≠ k) : Many (DataW.insert (k, d) ([(k0, d0)].filter fun p => !p.1.sameKey k)) := by
  refine ⟨(k0, d0), mem_put.2 (.inr ⟨List.mem_singleton.2 rfl, ?_⟩), (k, d), mem_put.2 (.inl rfl), hne⟩
  rw [Bool.eq_false_iff]
  exact fun e => hne ((same_str hk0 hk).1 e)
theorem one_again {k : Lit} {d d0 : DataW H} (hk : ∃ s, k = .string s) : DataW.insert (k, d) ([(k, d0)].filter fun p => !p.1.sameKey k) = [(k, d)] := by
  have : k.sameKey k = true := (same_str hk hk).2 rfl
  simp [this, DataW.insert]
theorem none_put {k : Lit} {d : DataW H} : DataW.insert (k, d) (([] : List (Lit × DataW H)).filter fun p => !p.1.sameKey k) = [(k, d)] := by
  simp [DataW.insert]
theorem owns_str {w : World} {b n : Nat} {es : List (Lit × DataW H)} {R : Value → Option (DataW H × List MemPlace)} (h : w.ownsMap Try.prog 101 R b n (.map es)) : ∀ p ∈ es, ∃ s, p.1 = .string s := by
  intro p hp
  obtain ⟨es2, clock, hb, F, hs, e⟩ := h
  injection e with e
  subst e
  have hp2 : p ∈ es2.toList.map (WideElems.rg Try.prog 101 R) := by
    have key : ∀ (l : List (Lit × DataW H)), p ∈ l.foldr DataW.insert [] → p ∈ l := by
      intro l
      induction l with
      | nil => intro h; simp at h
      | cons x l ih =>
        intro h
        rw [List.foldr_cons, ChangeMaps.mem_insert_iff] at h
        rcases h with rfl | h
        · exact List.mem_cons_self
        · exact List.mem_cons_of_mem _ (ih h)
    exact key _ hp
  obtain ⟨v, hv⟩ := Maps.fit_keys F p hp2
  exact keys_law.str hv
end
end

section
open Go.RowKit Go.ChangeShapes Go.Sort Go.Maps Go.WideMaps
set_option linter.unusedVariables false
set_option linter.unusedSimpArgs false

theorem ownsMap_keepD {H : Type} {P : Program} {k : TypeId} {R : Value → Option (DataW H × List MemPlace)} {w w' : World} {b n : Nat} {D : DataW H} (h : w.ownsMap P k R b n D) (hb : Below w.heap.size w w') : w'.ownsMap P k R b n D := by
  have hlt := h.lt
  exact h.kept (row := none) ⟨hb.os, hb.tape, hb.output, hb.size, fun k hk _ => hb.block k hk⟩ (by simp)
theorem plainElem_bool_back {H : Type} {P : Program} {e : TypeId} (he : P.underlying e = some .bool) {v : Value} {b : Bool} {ps : List MemPlace} (h : plainElem (H := H) P e v = some (.lit (.bool b), ps)) : v = .bool b := by
  unfold plainElem at h
  rw [he] at h
  cases v <;> simp at h
  rw [h.1]
/-- m[k] of a map of truth values, at the operation. -/
theorem wpList_lookup_bool {H : Type} {P : Program} (w : World) {ops : Array Oper} {rest : List Oper} {o : Oper} {a : Act} {Q : Exit → Act → World → Prop}
    (hg : o.guard = none) (m x : Operand) (t : TypeId) (hop : o.op = Op.lookup t m x false)
    (k e : TypeId) (K : Keyed P k) (ht : P.underlying t = some (.map k e)) (he : P.underlying e = some .bool) (hz : (zeroValue e).run P w = .ok (.bool false) w) (b n : Nat) (D : DataW H)
    (hm : a.eval m = .map (some b)) (hown : w.ownsMap P k (plainElem P e) b n D) (key : Value) (kl : Lit) (hx : a.eval x = key) (hkey : keyOf P k key = some kl)
    (r : Bool) (hat : D.atKey kl (.lit (.bool false)) = .lit (.bool r)) (hK : wpList P ops Q rest (a.put o.dst (.bool r)) w) : wpList P ops Q (o :: rest) a w := by
  refine wpList_plain hg fun K' hK' => ?_
  obtain ⟨v, ps, hrun, hv⟩ := hown.lookup K ht hz (plainElem_bool he false) hkey
  rw [hat] at hv
  have e := plainElem_bool_back he hv
  subst e
  unfold Oper.wp
  simp [execOp, hop, hm, hx, hrun, Result.andThen]
  exact hK' _ _ hK
theorem Try.zero4 (w : World) : (zeroValue 4).run Try.prog w = .ok (.bool false) w := by kernel_rfl

/-- The places at which an image is there for the first time, among the first i. -/
def difs (n L : Nat) (f : Nat → Int) : Nat → List Nat
  | 0 => []
  | i + 1 => if knownB n L f i i then difs n L f i else difs n L f i ++ [i]
def difI (n L : Nat) (f : Nat → Int) (i j : Nat) : Nat := (difs n L f i).getD j 0
theorem difs_yes {n L : Nat} {f : Nat → Int} {i : Nat} (h : knownB n L f i i = false) : difs n L f (i + 1) = difs n L f i ++ [i] := by
  show (if _ then _ else _) = _
  rw [h]; rfl
theorem difs_no {n L : Nat} {f : Nat → Int} {i : Nat} (h : knownB n L f i i = true) : difs n L f (i + 1) = difs n L f i := by
  show (if _ then _ else _) = _
  rw [h]; rfl
theorem difs_len (n L : Nat) (f : Nat → Int) : ∀ i, (difs n L f i).length = degTo n L f i
  | 0 => rfl
  | i + 1 => by
    cases h : knownB n L f i i
    · rw [difs_yes h, degTo_yes h, List.length_append, difs_len n L f i]; rfl
    · rw [difs_no h, degTo_no h, difs_len n L f i]
theorem difI_old {n L : Nat} {f : Nat → Int} {i j : Nat} (h : knownB n L f i i = false) (hj : j < degTo n L f i) : difI n L f (i + 1) j = difI n L f i j := by
  unfold difI
  rw [difs_yes h, List.getD_eq_getElem?_getD, List.getD_eq_getElem?_getD, List.getElem?_append_left (by rw [difs_len]; exact hj)]
theorem difI_new {n L : Nat} {f : Nat → Int} {i : Nat} (h : knownB n L f i i = false) : difI n L f (i + 1) (degTo n L f i) = i := by
  unfold difI
  rw [difs_yes h, List.getD_eq_getElem?_getD, List.getElem?_append_right (by rw [difs_len]; exact Nat.le_refl _), difs_len, Nat.sub_self]
  rfl
theorem difI_same {n L : Nat} {f : Nat → Int} {i j : Nat} (h : knownB n L f i i = true) : difI n L f (i + 1) j = difI n L f i j := by
  unfold difI; rw [difs_no h]

/-- Whether F is one of the first q images. -/
def kA (n L : Nat) (f : Nat → Int) (F : Nat → Int) : Nat → Bool
  | 0 => false
  | q + 1 => kA n L f F q || eqB 12 (imA n L f q) F
theorem eqB_imA {n L : Nat} {f : Nat → Int} {q i : Nat} (hp : phiN n ≤ 12) : eqB 12 (imA n L f q) (imA n L f i) = eqB (phiN n) (im n L f q) (im n L f i) := by
  rw [Bool.eq_iff_iff, eqB_iff, eqB_iff]
  unfold imA cut
  constructor
  · intro h j hj
    have := h j (by omega)
    rw [if_pos hj, if_pos hj] at this
    exact this
  · intro h j hj
    split
    · exact h j (by assumption)
    · rfl
theorem kA_im {n L : Nat} {f : Nat → Int} {i : Nat} (hp : phiN n ≤ 12) : ∀ q, kA n L f (imA n L f i) q = knownB n L f i q
  | 0 => rfl
  | q + 1 => by show (_ || _) = (_ || _); rw [kA_im hp q, eqB_imA hp]
theorem kA_congr {n L : Nat} {f F G : Nat → Int} (h : ∀ j, j < 12 → F j = G j) : ∀ q, kA n L f F q = kA n L f G q
  | 0 => rfl
  | q + 1 => by
    show (_ || _) = (_ || _)
    rw [kA_congr h q]
    congr 1
    rw [Bool.eq_iff_iff, eqB_iff, eqB_iff]
    exact ⟨fun e j hj => (e j hj).trans (h j hj), fun e j hj => (e j hj).trans (h j hj).symm⟩
theorem arrV_congr {F G : Nat → Int} (h : ∀ j, j < 12 → F j = G j) : arrV F = arrV G := by
  unfold arrV
  rw [h 0 (by omega), h 1 (by omega), h 2 (by omega), h 3 (by omega), h 4 (by omega), h 5 (by omega), h 6 (by omega), h 7 (by omega), h 8 (by omega), h 9 (by omega), h 10 (by omega), h 11 (by omega)]
theorem imA_inR {n L : Nat} {f : Nat → Int} {k : Nat} : ∀ j, j < 12 → inR (imA n L f k j) :=
  cut_inR _ _ 12 (fun j hj => redP_inR n _ (fun j _ => foldP_inR _ _ _ _) j (by omega))

/-- What the map holds after i images. -/
def Seen (n L : Nat) (f : Nat → Int) (i : Nat) (D : DataW Unit) : Prop :=
  IsMap D ∧ ∀ (F : Nat → Int) (kl : Lit), keyOf Try.prog 101 (arrV F) = some kl → D.atKey kl (.lit (.bool false)) = .lit (.bool (kA n L f F i))
theorem seen_none (n L : Nat) (f : Nat → Int) : Seen n L f 0 (.map []) := ⟨isMap_empty, fun F kl h => rfl⟩
theorem seen_put {n L : Nat} {f : Nat → Int} {i : Nat} {D : DataW Unit} {ki : Lit} (h : Seen n L f i D) (hk : keyOf Try.prog 101 (arrV (imA n L f i)) = some ki) : Seen n L f (i + 1) (D.put ki (.lit (.bool true))) := by
  have hs : WideAt.IsKeyLit ki := by
    obtain ⟨s, e⟩ := keys_law.str hk
    rw [e]
    exact trivial
  refine ⟨h.1.put _ _, fun F kl hF => ?_⟩
  by_cases e : kl = ki
  · subst e
    rw [atKey_put_same h.1 hs]
    have h2 := arrV_inj (keys_law.inj hF hk)
    have h3 : eqB 12 (imA n L f i) F = true := eqB_iff.2 (fun j hj => (h2 j hj).symm)
    show _ = DataW.lit (.bool (_ || _))
    rw [h3, Bool.or_true]
  · rw [atKey_put_other e, h.2 F kl hF]
    have h3 : eqB 12 (imA n L f i) F = false := by
      cases h4 : eqB 12 (imA n L f i) F
      · rfl
      · have h5 := arrV_congr (eqB_iff.1 h4)
        rw [h5, hF] at hk
        exact absurd (Option.some.inj hk) e
    show _ = DataW.lit (.bool (_ || _))
    rw [h3, Bool.or_false]
theorem seen_skip {n L : Nat} {f : Nat → Int} {i : Nat} {D : DataW Unit} (hp : phiN n ≤ 12) (h : Seen n L f i D) (hk : knownB n L f i i = true) : Seen n L f (i + 1) D := by
  refine ⟨h.1, fun F kl hF => ?_⟩
  rw [h.2 F kl hF]
  show _ = DataW.lit (.bool (_ || _))
  cases h3 : eqB 12 (imA n L f i) F
  · rw [Bool.or_false]
  · have h4 := kA_congr (n := n) (L := L) (f := f) (eqB_iff.1 h3) i
    rw [kA_im hp, hk] at h4
    rw [← h4]; rfl

section
variable {o : Bool} {lo hi L : Nat} {v : Value} {f : Nat → Int}
set_option maxRecDepth 100000 in
set_option maxHeartbeats 2000000 in
theorem differentImagesOf_any (n : Nat) (h1 : 1 ≤ n) (h2 : n ≤ 16) (w : World) (hs : Sl o w lo hi v L f) (hL : L ≤ 24) :
    Calls Try.prog 128 #[.agg #[.int .i64 (n : Int), v]] w fun e w' => ∃ (g cap : Nat), e = .returned (.slice (some ⟨g, 0, none⟩) (degTo n L f (phiN n)) cap) ∧ RowE w' w.heap.size 101 12 g cap (degTo n L f (phiN n)) (fun k => arrL (imA n L f (difI n L f (phiN n) k))) ∧ Below w.heap.size w w' := by
  obtain ⟨av, cap0, rfl⟩ := hs.shape
  have hhs := hs.size
  have hp := phi_le12 n h2 h1
  have stA := (((St.start w).addSl ⟨o, lo, hi, .slice av L cap0, L, f⟩ hs).alloc (.cells #[.int .i64 (n : Int), .slice av L cap0] 28)).addBox w.heap.size [.int .i64 (n : Int), .slice av L cap0] (Box.made _ _ _ _ (fun j v h => by simpa using h))
  have st0 := (stA.alloc (.map #[] 0)).alloc (.cells #[] 101)
  have r0 := RowE.made ((w.alloc (.cells #[.int .i64 (n : Int), .slice av L cap0] 28)).alloc (.map #[] 0)) (w.heap.size + 1 + 1) 101 12 (fun k => arrL (imA n L f (difI n L f 0 k))) (by simp)
  have hom := (World.ownsMap_made (w.alloc (.cells #[.int .i64 (n : Int), .slice av L cap0] 28)) Try.prog 101 (plainElem (H := Unit) Try.prog 4)).alloc (.cells #[] 101)
  simp only [World.size_alloc] at r0 hom
  obtain ⟨x0, x1⟩ := (st0.box 0 (w.heap.size, [.int .i64 (n : Int), .slice av L cap0]) rfl).cell2
  have q0 := st0.sl 0 ⟨o, lo, hi, .slice av L cap0, L, f⟩ rfl
  dsimp only at q0
  clear hs stA
  have hmm := @run_makeMap Try.prog
  go_enter Try.func128, Try.ntmps128
  go_wp2_with fail
  refine (imagesOf_any n h1 h2 _ q0 hL).mono ?_
  rintro e w1 ⟨gi, ci, rfl, s1, b1⟩
  clear hmm
  have hz1 := b1.size
  simp only [World.size_alloc] at s1 hz1
  have HST := Lib.hid (st0.keep b1)
  have HR := Lib.hid (r0.keep b1 (Nat.le_refl _))
  have HOM := Lib.hid (ownsMap_keepD hom b1)
  have HI := Lib.hid s1
  clear st0 r0 b1 s1 x0 x1 q0 hom
  go_wp2
  go_loopw [4, 12] (fun s4 s12 wr => ∃ (k g cap : Nat) (D : DataW Unit), k ≤ phiN n ∧ s4 = .slice (some ⟨g, 0, none⟩) (degTo n L f k) cap ∧ s12 = .int .i64 k ∧ RowE wr (w.heap.size + 1 + 1) 101 12 g cap (degTo n L f k) (fun j => arrL (imA n L f (difI n L f k j))) ∧ (g < w.heap.size + 1 + 1 + 1 ∨ w1.heap.size ≤ g) ∧
      RowE wr (w.heap.size + 1 + 1 + 1) 101 12 gi ci (phiN n) (fun k => arrL (imA n L f k)) ∧ gi < w1.heap.size ∧ w1.heap.size ≤ wr.heap.size ∧ wr.ownsMap Try.prog 101 (plainElem (H := Unit) Try.prog 4) (w.heap.size + 1) k D ∧ Seen n L f k D ∧
      St w wr [(w.heap.size, [.int .i64 (n : Int), .slice av L cap0])] [⟨o, lo, hi, .slice av L cap0, L, f⟩]) (fun _ s12 _ => phiN n - (intOf s12).toNat)
  case atStart => exact ⟨0, _, _, _, Nat.zero_le _, rfl, rfl, HR.out, .inl (by omega), HI.out, HI.out.lt.2, Nat.le_refl _, HOM.out, seen_none n L f, HST.out⟩
  case round =>
    clear HR HST HI HOM
    obtain ⟨k, g, cap, D, hk, rfl, rfl, hr, hd, hri, hgi, hgw, hown, hseen, hst⟩ := hrel
    have R1 := Lib.hid hr; clear hr
    have RI := Lib.hid hri; clear hri
    have HO := Lib.hid hown; clear hown
    have HS := Lib.hid hseen; clear hseen
    have HT := Lib.hid hst; clear hst
    obtain ⟨hl, hl'⟩ := R1.out.lt
    obtain ⟨hj, hj'⟩ := RI.out.lt
    have hdk := degTo_le n L f k
    by_cases hlt : k < phiN n
    · have hk2 : (k : Int) < (phiN n : Int) := by omega
      have e0 := RI.out.cell (fun _ => arrL_len _) (i := k) (j := 0) hlt (by omega)
      have e1 := RI.out.cell (fun _ => arrL_len _) (i := k) (j := 1) hlt (by omega)
      have e2 := RI.out.cell (fun _ => arrL_len _) (i := k) (j := 2) hlt (by omega)
      have e3 := RI.out.cell (fun _ => arrL_len _) (i := k) (j := 3) hlt (by omega)
      have e4 := RI.out.cell (fun _ => arrL_len _) (i := k) (j := 4) hlt (by omega)
      have e5 := RI.out.cell (fun _ => arrL_len _) (i := k) (j := 5) hlt (by omega)
      have e6 := RI.out.cell (fun _ => arrL_len _) (i := k) (j := 6) hlt (by omega)
      have e7 := RI.out.cell (fun _ => arrL_len _) (i := k) (j := 7) hlt (by omega)
      have e8 := RI.out.cell (fun _ => arrL_len _) (i := k) (j := 8) hlt (by omega)
      have e9 := RI.out.cell (fun _ => arrL_len _) (i := k) (j := 9) hlt (by omega)
      have e10 := RI.out.cell (fun _ => arrL_len _) (i := k) (j := 10) hlt (by omega)
      have e11 := RI.out.cell (fun _ => arrL_len _) (i := k) (j := 11) hlt (by omega)
      obtain ⟨ki, hki⟩ := key_arr (imA n L f k) imA_inR
      have HKI := Lib.hid hki
      clear hki
      have HAT := Lib.hid (HS.out.2 (imA n L f k) ki HKI.out)
      rw [kA_im hp] at HAT
      have HPUT := Lib.hid (seen_put HS.out HKI.out)
      have HG := Lib.hid (rfl : imA n L f k = imA n L f k)
      generalize hGe : imA n L f k = G at e0 e1 e2 e3 e4 e5 e6 e7 e8 e9 e10 e11 HKI
      have HGe := Lib.hid hGe; clear hGe
      have HL := Lib.hid (show arrL G = [.int .i64 (G 0), .int .i64 (G 1), .int .i64 (G 2), .int .i64 (G 3), .int .i64 (G 4), .int .i64 (G 5), .int .i64 (G 6), .int .i64 (G 7), .int .i64 (G 8), .int .i64 (G 9), .int .i64 (G 10), .int .i64 (G 11)] from rfl)
      rw [HL.out] at e0 e1 e2 e3 e4 e5 e6 e7 e8 e9 e10 e11
      simp only [Nat.add_zero, List.getElem?_cons_zero, List.getElem?_cons_succ] at e0 e1 e2 e3 e4 e5 e6 e7 e8 e9 e10 e11
      by_cases hkn : knownB n L f k k = true
      · have HAT2 := Lib.hid (show D.atKey ki (.lit (.bool false)) = .lit (.bool true) from by rw [HAT.out, hkn])
        have HSK := Lib.hid (seen_skip hp HS.out hkn)
        have HDG := Lib.hid (degTo_no hkn)
        have HDI := Lib.hid (fun j => difI_same (j := j) hkn)
        clear hkn
        go_wp2_with (first
          | (at_lookup; refine wpList_lookup_bool _ rfl _ _ 143 rfl 101 4 keys_keyed Try.underlying143 Try.underlying4 (Try.zero4 _) (w.heap.size + 1) k D rfl (HO.out.alloc _) _ ki rfl HKI.out true HAT2.out ?_))
        go_roundw
        case rel => exact ⟨k + 1, g, cap, D, by omega, by rw [HDG.out], by go_num, by
            rw [HDG.out]
            exact (R1.out.alloc _).congr (fun j hj => by rw [HDI.out j]), hd, RI.out.alloc _, hgi, by simp; omega, (HO.out.alloc _).mono (by omega), HSK.out, HT.out.alloc _⟩
        case measure => simp [intOf] <;> omega
      · have hkn2 : knownB n L f k k = false := by simpa using hkn
        have HAT2 := Lib.hid (show D.atKey ki (.lit (.bool false)) = .lit (.bool false) from by rw [HAT.out, hkn2])
        have HDG := Lib.hid (degTo_yes hkn2)
        have HDI := Lib.hid (fun j => difI_old (j := j) hkn2)
        have HDN := Lib.hid (difI_new hkn2)
        clear hkn hkn2
        go_wp2_with (first
          | (at_lookup; refine wpList_lookup_bool _ rfl _ _ 143 rfl 101 4 keys_keyed Try.underlying143 Try.underlying4 (Try.zero4 _) (w.heap.size + 1) k D rfl (HO.out.alloc _) _ ki rfl HKI.out false HAT2.out ?_)
          | (at_mapUpdate; refine wpList_mapUpdate_own _ rfl _ _ _ 143 rfl 101 4 keys_keyed Try.underlying143 (plainElem (H := Unit) Try.prog 4) (w.heap.size + 1) k D rfl (HO.out.alloc _) (by unfold maxLen; omega) _ _ ki rfl rfl HKI.out (.lit (.bool true)) [] (plainElem_bool Try.underlying4 true) ?_; intro w8 hown8 hgr8
             have hblk : w8.heap[wr.heap.size]? = some (.cells (arrC G) 101) := (hgr8.block _ (by simp) (by simp only [ne_eq, Option.some.injEq]; omega)).trans (heap_alloc_new wr _)
             have c0 : w8.cell? ⟨wr.heap.size, 0, none⟩ = some (.int .i64 (G 0)) := cell_of_row _ _ _ _ _ _ hblk
             have c1 : w8.cell? ⟨wr.heap.size, 1, none⟩ = some (.int .i64 (G 1)) := cell_of_row _ _ _ _ _ _ hblk
             have c2 : w8.cell? ⟨wr.heap.size, 2, none⟩ = some (.int .i64 (G 2)) := cell_of_row _ _ _ _ _ _ hblk
             have c3 : w8.cell? ⟨wr.heap.size, 3, none⟩ = some (.int .i64 (G 3)) := cell_of_row _ _ _ _ _ _ hblk
             have c4 : w8.cell? ⟨wr.heap.size, 4, none⟩ = some (.int .i64 (G 4)) := cell_of_row _ _ _ _ _ _ hblk
             have c5 : w8.cell? ⟨wr.heap.size, 5, none⟩ = some (.int .i64 (G 5)) := cell_of_row _ _ _ _ _ _ hblk
             have c6 : w8.cell? ⟨wr.heap.size, 6, none⟩ = some (.int .i64 (G 6)) := cell_of_row _ _ _ _ _ _ hblk
             have c7 : w8.cell? ⟨wr.heap.size, 7, none⟩ = some (.int .i64 (G 7)) := cell_of_row _ _ _ _ _ _ hblk
             have c8 : w8.cell? ⟨wr.heap.size, 8, none⟩ = some (.int .i64 (G 8)) := cell_of_row _ _ _ _ _ _ hblk
             have c9 : w8.cell? ⟨wr.heap.size, 9, none⟩ = some (.int .i64 (G 9)) := cell_of_row _ _ _ _ _ _ hblk
             have c10 : w8.cell? ⟨wr.heap.size, 10, none⟩ = some (.int .i64 (G 10)) := cell_of_row _ _ _ _ _ _ hblk
             have c11 : w8.cell? ⟨wr.heap.size, 11, none⟩ = some (.int .i64 (G 11)) := cell_of_row _ _ _ _ _ _ hblk
             have hz8 := hgr8.size
             simp only [World.size_alloc] at hz8
             have R8 := Lib.hid ((R1.out.alloc (.cells (arrC G) 101)).kept hgr8 (by omega))
             have RI8 := Lib.hid ((RI.out.alloc (.cells (arrC G) 101)).kept hgr8 (by omega))
             have HT8 := Lib.hid ((HT.out.alloc (.cells (arrC G) 101)).write (Frame.ofGrown hgr8) (by omega) (by intro b hb; simp only [List.mem_cons, List.not_mem_nil, or_false] at hb; rcases hb with rfl <;> dsimp only <;> omega) (by intro s hs'; simp only [List.mem_cons, List.not_mem_nil, or_false] at hs'; rcases hs' with rfl <;> dsimp only <;> omega))
             have HO8 := Lib.hid hown8
             clear hown8 hgr8 hblk)
          | (at_builtin; refine wpList_pushA rfl (.tmp 22) (.tmp 24) rfl rfl (w.heap.size + 1 + 1) g cap (degTo n L f k) (fun j => imA n L f (difI n L f k j)) rfl (R8.out.alloc _) w8.heap.size G rfl (heap_alloc_new w8 _) (by omega) ?_; intro gA kA' wA rowA grA orA ltA
             have STA := Lib.hid ((HT8.out.alloc (.cells (arrC G) 101)).write (Frame.ofGrown grA) (by omega) (by intro b hb; simp only [List.mem_cons, List.not_mem_nil, or_false] at hb; rcases hb with rfl <;> dsimp only <;> omega) (by intro s hs'; simp only [List.mem_cons, List.not_mem_nil, or_false] at hs'; rcases hs' with rfl <;> dsimp only <;> omega))
             have RA := Lib.hid rowA
             have RIA := Lib.hid ((RI8.out.alloc (.cells (arrC G) 101)).kept grA (by omega))
             have HOA := Lib.hid ((HO8.out.alloc (.cells (arrC G) 101)).kept grA (by simp only [ne_eq, Option.some.injEq]; omega))
             have hzA := grA.size
             simp only [World.size_alloc] at orA hzA
             clear rowA grA))
        go_roundw
        case rel =>
          refine ⟨k + 1, gA, kA', _, by omega, by rw [HDG.out], by go_num, ?_, by omega, RIA.out, hgi, by omega, HOA.out, HPUT.out, STA.out⟩
          rw [HDG.out]
          exact RA.out.congr (fun j hj => by
            by_cases e : j < degTo n L f k
            · rw [if_pos e, HDI.out j e]
            · obtain rfl : j = degTo n L f k := by omega
              rw [if_neg e, HDN.out, HGe.out])
        case measure => simp [intOf] <;> omega
    · obtain rfl : k = phiN n := by omega
      have BB := HT.out.1
      go_wp2
      go_ret
      exact ⟨g, cap, rfl, ⟨R1.out.1, by
        rcases R1.out.2 with h | ⟨g', cap', cur, hv, hb, r⟩
        · exact .inl h
        · exact .inr ⟨g', cap', cur, hv, by omega, r⟩⟩, BB⟩
end
end

section
open Go.RowKit Go.ChangeShapes Go.Sort
set_option linter.unusedVariables false
set_option linter.unusedSimpArgs false

/-- How many roots there are among the first i images. -/
def cntI (n L : Nat) (f : Nat → Int) (D : Bool) (i : Nat) : Nat := if D then degTo n L f i else i
/-- The root at the place k. -/
def rtI (n L : Nat) (f : Nat → Int) (D : Bool) (k : Nat) : Nat → Int := im n L f (if D then difI n L f (phiN n) k else k)
theorem cntI_le (n L : Nat) (f : Nat → Int) (D : Bool) (i : Nat) : cntI n L f D i ≤ i := by
  unfold cntI; split
  · exact degTo_le n L f i
  · exact Nat.le_refl _
theorem cntI_skip {n L : Nat} {f : Nat → Int} {D : Bool} {i : Nat} (h : (knownB n L f i i && D) = true) : cntI n L f D (i + 1) = cntI n L f D i := by
  rw [Bool.and_eq_true] at h
  unfold cntI
  rw [if_pos h.2, if_pos h.2, degTo_no h.1]
theorem cntI_take {n L : Nat} {f : Nat → Int} {D : Bool} {i : Nat} (h : (knownB n L f i i && D) = false) : cntI n L f D (i + 1) = cntI n L f D i + 1 := by
  unfold cntI
  cases D
  · rfl
  · rw [Bool.and_true] at h
    rw [if_pos rfl, if_pos rfl, degTo_yes h]
theorem degTo_mono (n L : Nat) (f : Nat → Int) {i : Nat} : ∀ {j : Nat}, i ≤ j → degTo n L f i ≤ degTo n L f j
  | 0, h => by obtain rfl : i = 0 := by omega
               exact Nat.le_refl _
  | j + 1, h => by
    by_cases e : i = j + 1
    · subst e; exact Nat.le_refl _
    · exact Nat.le_trans (degTo_mono n L f (j := j) (by omega)) (by show _ ≤ degTo n L f j + _; omega)
theorem difI_at {n L : Nat} {f : Nat → Int} {i : Nat} (h : knownB n L f i i = false) : ∀ {m : Nat}, i < m → difI n L f m (degTo n L f i) = i
  | 0, hm => absurd hm (Nat.not_lt_zero _)
  | m + 1, hm => by
    by_cases e : i = m
    · subst e; exact difI_new h
    · have hi : i < m := by omega
      have ih := difI_at h (m := m) hi
      have hd : degTo n L f i < degTo n L f m := by
        have := degTo_mono n L f (i := i + 1) (j := m) (by omega)
        rw [degTo_yes h] at this
        omega
      cases hk : knownB n L f m m
      · rw [difI_old hk hd]; exact ih
      · rw [difI_same hk]; exact ih
theorem rtI_at {n L : Nat} {f : Nat → Int} {D : Bool} {i : Nat} (h : (knownB n L f i i && D) = false) (hi : i < phiN n) : rtI n L f D (cntI n L f D i) = im n L f i := by
  unfold rtI cntI
  cases D
  · rfl
  · rw [Bool.and_true] at h
    rw [if_pos rfl, if_pos rfl, difI_at h hi]
theorem cntI_mono (n L : Nat) (f : Nat → Int) (D : Bool) {i j : Nat} (h : i ≤ j) : cntI n L f D i ≤ cntI n L f D j := by
  unfold cntI; split
  · exact degTo_mono n L f h
  · exact h
theorem cntI_lt {n L : Nat} {f : Nat → Int} {D : Bool} {i m : Nat} (h : (knownB n L f i i && D) = false) (hi : i < m) : cntI n L f D i < cntI n L f D m := by
  have := cntI_mono n L f D (i := i + 1) (j := m) hi
  rw [cntI_take h] at this
  omega

/-- Numbers whose Parts lie apart from the blocks bs. -/
def NX (w : World) (bs : List Nat) (m N : Nat) (vs : Nat → Value) (G : Nat → Nat → Int) : Prop :=
  ∀ k, k < m → ∃ lo hi, (∀ b ∈ bs, b < lo ∨ hi ≤ b) ∧ Sl false w lo hi (vs k) N (G k)
section
variable {w w' : World} {g i m n N : Nat} {vs : Nat → Value} {G : Nat → Nat → Int} {bs : List Nat}
theorem NX.keep {B : Nat} (h : NX w bs m N vs G) (hb : Below B w w') (hB : w.heap.size ≤ B) : NX w' bs m N vs G := fun k hk => by
  obtain ⟨lo, hi, q1, q2⟩ := h k hk
  exact ⟨lo, hi, q1, q2.keep hb (Nat.le_trans q2.size hB)⟩
theorem NX.alloc (h : NX w bs m N vs G) (ob : Obj) : NX (w.alloc ob) bs m N vs G := h.keep ((Below.refl _ _).alloc (Nat.le_refl _) _) (Nat.le_refl _)
theorem NX.more {b : Nat} (h : NX w bs m N vs G) (hb : w.heap.size ≤ b) : NX w (b :: bs) m N vs G := fun k hk => by
  obtain ⟨lo, hi, q1, q2⟩ := h k hk
  refine ⟨lo, hi, fun x hx => ?_, q2⟩
  rcases List.mem_cons.1 hx with rfl | hx
  · have := q2.size; right; omega
  · exact q1 x hx
theorem NX.sub {bs' : List Nat} (h : NX w bs m N vs G) (hb : ∀ b ∈ bs', b ∈ bs) : NX w bs' m N vs G := fun k hk => by
  obtain ⟨lo, hi, q1, q2⟩ := h k hk
  exact ⟨lo, hi, fun x hx => q1 x (hb x hx), q2⟩
theorem NX.frame {b : Nat} (h : NX w bs m N vs G) (hf : Frame b (b + 1) w w') (hb : b ∈ bs) : NX w' bs m N vs G := fun k hk => by
  obtain ⟨lo, hi, q1, q2⟩ := h k hk
  have := q1 b hb
  exact ⟨lo, hi, q1, q2.keepF hf (by omega)⟩
theorem NX.grown {b b' : Nat} (h : NX w (b :: bs) m N vs G) (hf : Frame b (b + 1) w w') (ho : b' = b ∨ b' = w.heap.size) : NX w' (b' :: bs) m N vs G := by
  rcases ho with rfl | rfl
  · exact h.frame hf List.mem_cons_self
  · exact ((h.more (Nat.le_refl _)).frame hf (by simp)).sub (fun x hx => by simp only [List.mem_cons] at hx ⊢; rcases hx with hx | hx <;> simp [hx])
theorem NX.push {u : Value} {lo hi : Nat} (h : NX w bs m N vs G) (hs : Sl false w lo hi u N (G m)) (ha : ∀ b ∈ bs, b < lo ∨ hi ≤ b) : NX w bs (m + 1) N (fun k => if k < m then vs k else u) G := fun k hk => by
  by_cases e : k < m
  · obtain ⟨l, h', q1, q2⟩ := h k e
    exact ⟨l, h', q1, by dsimp only; rw [if_pos e]; exact q2⟩
  · obtain rfl : k = m := by omega
    exact ⟨lo, _, ha, by dsimp only; rw [if_neg e]; exact hs⟩
theorem CL.sub {bs' : List Nat} (h : CL w g i m n N vs G bs) (hb : ∀ b ∈ bs', b ∈ bs) : CL w g i m n N vs G bs' := by
  obtain ⟨h1, h2, h3, h4⟩ := h
  exact ⟨h1, h2, h3, NX.sub (bs := bs) h4 hb⟩
theorem CL.frame {b : Nat} (h : CL w g i m n N vs G bs) (hf : Frame b (b + 1) w w') (hb : b ∈ bs) (hne : g ≠ b) : CL w' g i m n N vs G bs := by
  obtain ⟨h1, h2, h3, h4⟩ := h
  refine ⟨Nat.lt_of_lt_of_le h1 hf.size, fun k => (hf.frozen (p := ⟨g, k, none⟩) h1 (by show g < b ∨ b + 1 ≤ g; omega)).trans (h2 k), fun k hk => ⟨(hf.cell (p := ⟨g, k * 2, none⟩) h1 (by show g < b ∨ b + 1 ≤ g; omega)).trans (h3 k hk).1, (hf.cell (p := ⟨g, k * 2 + 1, none⟩) h1 (by show g < b ∨ b + 1 ≤ g; omega)).trans (h3 k hk).2⟩, NX.frame (bs := bs) h4 hf hb⟩
theorem CL.grown {b b' : Nat} (h : CL w g i m n N vs G (b :: bs)) (hf : Frame b (b + 1) w w') (hne : g ≠ b) (ho : b' = b ∨ b' = w.heap.size) : CL w' g i m n N vs G (b' :: bs) := by
  rcases ho with rfl | rfl
  · exact h.frame hf List.mem_cons_self hne
  · exact ((h.more (Nat.le_refl _)).frame hf (by simp) hne).sub (fun x hx => by simp only [List.mem_cons] at hx ⊢; rcases hx with hx | hx <;> simp [hx])
end

section
variable {o : Bool} {lo hi L : Nat} {v : Value} {f : Nat → Int}
theorem l01One_poly (n : Nat) (w : World) (h1 : 1 ≤ n) (h2 : n ≤ 16) :
    Calls Try.prog 197 #[.int .i64 (n : Int)] w fun e w' => ∃ a cap, e = .returned (.agg #[.int .i64 (n : Int), .slice a (phiN n) cap]) ∧ Sl true w' w.heap.size w'.heap.size (.slice a (phiN n) cap) (phiN n) one0 ∧ Below w.heap.size w w' := by
  have hred : ∀ j, j < phiN n → redP n (unit (powIx n 0)) j = one0 j := by
    intro j hj
    have hn : n < 17 := by omega
    have hp := phi_le12 n (by omega) h1
    have e : redZ n (unit 0) j = one0 j := by
      rw [tb_eq hn h1 (by omega) hj, tab_unit n hn h1 0 (phi_pos n hn h1) j hj]
      unfold one0
      by_cases h : j = 0
      · rw [if_pos h, if_pos h.symm]
      · rw [if_neg h, if_neg (fun h' => h h'.symm)]
    have hpz : ∀ n, n < 17 → 1 ≤ n → powIx n 0 = 0 := by decide +kernel
    rw [hpz n hn h1, redP_exact hn h1 (P' := unit 0) (fun k _ => (wrap_inR (by unfold unit inR; split <;> omega)).symm) (by omega) (by rw [e]; unfold one0 inR; split <;> omega), e]
  have HRED := Lib.hid hred
  clear hred
  have st0 := (St.start w).boxNew (.int .i64 0) (.slice none 0 0) 28
  go_enter Try.func197, Try.ntmps197
  go_wp2_with fail
  refine (l01Unit_any n 0 _ h1 h2).mono ?_
  rintro e w1 ⟨a1, k1, rfl, s1, b1⟩
  have st1 := st0.keep b1
  have hz1 := b1.size
  simp only [World.size_alloc] at hz1
  have S1 := Lib.hid (s1.congr (f' := one0) (fun j hj => (HRED.out j hj).symm))
  clear st0 b1 s1
  obtain ⟨d0, d1⟩ := (st1.box 0 _ rfl).cell2
  have dz := (st1.box 0 _ rfl).2.2
  have BB := st1.1
  dsimp only at dz
  go_wp2
  refine bodyPost_ret (v := .agg #[.int .i64 (n : Int), .slice a1 (phiN n) k1]) (by simp [results, Try.results197, go_sem, d0, d1]) rfl ?_
  refine ⟨_, _, rfl, ?_, by go_grown⟩
  exact ((S1.out.setOther (.inl (by show w.heap.size < _; simp)) _).setOther (.inl (by show w.heap.size < _; simp)) _).wide (by simp) (by simp) (Nat.le_refl _)
end
end

section
open Go.RowKit Go.ChangeShapes Go.Sort
set_option linter.unusedVariables false
set_option linter.unusedSimpArgs false

section
variable {o : Bool} {lo hi L : Nat} {v : Value} {f : Nat → Int}
set_option maxRecDepth 100000 in
set_option maxHeartbeats 8000000 in
theorem l02Polynomial_any (n : Nat) (D : Bool) (w : World) (hs : Sl o w lo hi v L f) (h : CyP n L f) :
    Calls Try.prog 123 #[.agg #[.int .i64 (n : Int), v], .bool D] w fun e w' => ((plOk n (rtI n L f D) (cntI n L f D (phiN n)) ∧ ∃ a' k', e = .returned (.tuple #[.slice a' (cntI n L f D (phiN n) + 1) k', .bool true]) ∧ Sl true w' w.heap.size w'.heap.size (.slice a' (cntI n L f D (phiN n) + 1) k') (cntI n L f D (phiN n) + 1) (fun k => plZ n (rtI n L f D) (cntI n L f D (phiN n)) k 0)) ∨ (¬ plOk n (rtI n L f D) (cntI n L f D (phiN n)) ∧ e = .returned (.tuple #[.slice none 0 0, .bool false]))) ∧ Below w.heap.size w w' := by
  obtain ⟨av, cap, rfl⟩ := hs.shape
  have hn1 : 1 ≤ n := by have := h.1; omega
  have hn2 : n ≤ 16 := by have := h.2.1; omega
  have hp := phi_le12 n hn2 hn1
  have hp0 := phiN_pos n (by omega) hn1
  have hL : L ≤ 12 := by have e : L = phiN n := h.2.2.1; omega
  have hhs := hs.size
  have HIM := Lib.hid (fun k => im_big (n := n) (L := L) (f := f) (by omega) hn1 h.2.2.2 hL k)
  have st0 := ((((St.start w).addSl ⟨o, lo, hi, .slice av L cap, L, f⟩ hs).alloc (.cells #[.int .i64 (n : Int), .slice av L cap] 28)).addBox w.heap.size [.int .i64 (n : Int), .slice av L cap] (Box.made _ _ _ _ (fun j v h => by simpa using h)))
  have q0 := st0.sl 0 ⟨o, lo, hi, .slice av L cap, L, f⟩ rfl
  dsimp only at q0
  clear h hs
  go_enter Try.func123, Try.ntmps123
  go_wp2_with fail
  refine (l02Images_any n hn1 hn2 _ q0 (by omega)).mono ?_
  rintro e w2 ⟨g, cap2, g2, cap3, vs, rfl, r2, s2, n2, hne, b2⟩
  have hz2 := b2.size
  simp only [World.size_alloc] at hz2
  have st2 := st0.keep b2
  have CI := Lib.hid (CL.ofRow (bs := []) r2 (fun k hk => by
    obtain ⟨l, h, _, _, _, q⟩ := s2 k hk
    exact ⟨l, h, fun b hb => absurd hb List.not_mem_nil, q.rd⟩))
  clear st0 b2 n2 q0 r2 s2
  obtain ⟨x0, x1⟩ := (st2.box 0 (w.heap.size, [.int .i64 (n : Int), .slice av L cap]) rfl).cell2
  have ST2 := Lib.hid st2
  clear st2
  go_wp2_with fail
  refine (l01One_poly n _ hn1 hn2).mono ?_
  rintro e w3 ⟨a3, k3, rfl, s3, b3⟩
  have hz3 := b3.size
  have C1 := Lib.hid (show CL _ w3.heap.size 1 1 n (phiN n) (fun _ => .slice a3 (phiN n) k3) (plZ n (rtI n L f D) 0) [] from CL.one w3 28 n (phiN n) s3.rd)
  have CI1 := Lib.hid ((CI.out.keep b3 (Nat.le_refl _)).alloc (.cells #[.int .i64 (n : Int), .slice a3 (phiN n) k3] 28))
  have ST3 := Lib.hid ((ST2.out.keep b3).alloc (.cells #[.int .i64 (n : Int), .slice a3 (phiN n) k3] 28))
  clear CI ST2 s3 b3 x0 x1
  have hc0 : cntI n L f D 0 = 0 := by unfold cntI; split <;> rfl
  have HC0 := Lib.hid hc0
  clear hc0
  go_wp2
  go_loopw [8, 9] (fun s8 s9 wr => ∃ (i c g' cap' : Nat) (vl : Nat → Value), i ≤ phiN n ∧ c = cntI n L f D i ∧ s9 = .int .i64 (i : Int) ∧ s8 = .slice (some ⟨g', 0, none⟩) (c + 1) cap' ∧ CL wr g' (c + 1) (c + 1) n (phiN n) vl (plZ n (rtI n L f D) c) [] ∧ plOk n (rtI n L f D) c ∧ CL wr g (phiN n) (phiN n) n (phiN n) vs (im n L f) [] ∧ St w wr [(w.heap.size, [.int .i64 (n : Int), .slice av L cap])] [⟨o, lo, hi, .slice av L cap, L, f⟩]) (fun _ s9 _ => phiN n - (intOf s9).toNat)
  case atStart => exact ⟨0, 0, _, _, _, Nat.zero_le _, HC0.out.symm, rfl, rfl, C1.out, plOk_zero _ _, CI1.out, ST3.out⟩
  case round =>
    clear C1 CI1 ST3 HC0
    obtain ⟨i, c, g', cap', vl, hi9, hc, rfl, rfl, hcl, hok, hci, hst⟩ := hrel
    have HC := Lib.hid hc; clear hc
    have C := Lib.hid hcl; clear hcl
    have HOK := Lib.hid hok; clear hok
    have CI := Lib.hid hci; clear hci
    have HT := Lib.hid hst; clear hst
    have hc12 : c ≤ 12 := by have := cntI_le n L f D i; have := HC.out; omega
    by_cases hlt : i < phiN n
    · have hi2 : (i : Int) < (phiN n : Int) := by omega
      go_wp2
      go_loopw [10, 11] (fun s10 s11 wx => ∃ q : Nat, q ≤ i ∧ s10 = .bool (knownB n L f i q) ∧ s11 = .int .i64 (q : Int) ∧ CL wx g' (c + 1) (c + 1) n (phiN n) vl (plZ n (rtI n L f D) c) [] ∧ CL wx g (phiN n) (phiN n) n (phiN n) vs (im n L f) [] ∧ St w wx [(w.heap.size, [.int .i64 (n : Int), .slice av L cap])] [⟨o, lo, hi, .slice av L cap, L, f⟩]) (fun _ s11 _ => i - (intOf s11).toNat)
      case atStart => exact ⟨0, Nat.zero_le _, rfl, rfl, C.out, CI.out, HT.out⟩
      case round =>
        clear C CI HT
        obtain ⟨q, hq, rfl, rfl, hcl, hci, hst⟩ := hrel
        have C := Lib.hid hcl; clear hcl
        have CI := Lib.hid hci; clear hci
        have HT := Lib.hid hst; clear hst
        by_cases hlq : q < i
        · have hq2 : (q : Int) < (i : Int) := by omega
          have hq3 : (q : Int) < (phiN n : Int) := by omega
          have HKN := Lib.hid (show knownB n L f i (q + 1) = (knownB n L f i q || eqB (phiN n) (im n L f q) (im n L f i)) from rfl)
          cases hk : knownB n L f i q with
          | true =>
            have HK := Lib.hid hk
            clear hk
            go_wp2
            go_quiet (fail)
            go_wp2
            go_roundw
            case rel => exact ⟨q + 1, by omega, by rw [HKN.out, HK.out]; rfl, by go_num, C.out.keep (below_drewN (Below.refl wr.heap.size wr) _) (Nat.le_refl _), CI.out.keep (below_drewN (Below.refl wr.heap.size wr) _) (Nat.le_refl _), HT.out.drewN _⟩
            case measure => simp [intOf] <;> omega
          | false =>
            have HK := Lib.hid hk
            clear hk
            have a0 := CI.out.c0 (k := q) (by omega)
            have a1 := CI.out.c1 (k := q) (by omega)
            have e0 := CI.out.c0 hlt
            have e1 := CI.out.c1 hlt
            obtain ⟨l1, h1, _, hv1⟩ := CI.out.2.2.2 q (by omega)
            obtain ⟨l2, h2, _, hv2⟩ := CI.out.2.2.2 i hlt
            have HSM := Lib.hid (l01Same_any (n : Int) wr.drew hv1.drew hv2.drew)
            clear hv1 hv2
            go_wp2_with fail
            go_region_law (first
              | (go_simp; go_at_call 184; refine HSM.out.mono ?_; rintro e w8 ⟨rfl, b8⟩))
            all_goals
              have hz8 := b8.size
              have C8 := Lib.hid (C.out.drew.keep b8 (Nat.le_refl _))
              have I8 := Lib.hid (CI.out.drew.keep b8 (Nat.le_refl _))
              have T8 := Lib.hid (HT.out.drew.keep b8)
              clear b8 C CI HT a0 a1 e0 e1
              go_wp2
              go_roundw
              case rel => exact ⟨q + 1, by omega, by rw [HKN.out, HK.out]; rfl, by go_num, C8.out, I8.out, T8.out⟩
              case measure => simp [intOf] <;> omega
        · obtain rfl : i = q := by omega
          obtain ⟨wb, hwb⟩ : ∃ x : World, x = wr := ⟨_, rfl⟩
          subst hwb
          obtain ⟨R, hR⟩ : ∃ R, R = rtI n L f D := ⟨_, rfl⟩
          rw [← hR] at HOK C
          have HRQ := Lib.hid hR
          obtain ⟨T, hT⟩ : ∃ T, T = cntI n L f D (phiN n) := ⟨_, rfl⟩
          have HTQ := Lib.hid hT
          have HSKIP := Lib.hid (fun hsk => cntI_skip (n := n) (L := L) (f := f) (D := D) (i := i) hsk)
          have HTAKE := Lib.hid (fun hsk => cntI_take (n := n) (L := L) (f := f) (D := D) (i := i) hsk)
          have HRT := Lib.hid (fun hsk => rtI_at (n := n) (L := L) (f := f) (D := D) (i := i) hsk hlt)
          have HLT := Lib.hid (fun hsk => show cntI n L f D i < T from by rw [hT]; exact cntI_lt (n := n) (L := L) (f := f) (D := D) (i := i) (m := phiN n) hsk hlt)
          clear hR hT
          cases hkn : knownB n L f i i <;> cases D
          case true.true =>
            have HN := Lib.hid (HSKIP.out (by rw [hkn]; rfl))
            clear hkn
            go_wp2_with fail
            go_roundw
            case rel =>
              have hR := HRQ.out
              subst hR
              exact ⟨i + 1, c, g', cap', vl, by omega, by rw [HN.out]; exact HC.out, by go_num, rfl, C.out, HOK.out, CI.out, HT.out⟩
            case measure => simp [intOf] <;> omega
          all_goals
            skip
            have HCN := Lib.hid (HTAKE.out (by rw [hkn]; rfl))
            have HRI := Lib.hid (show R c = im n L f i from by rw [HRQ.out, HC.out]; exact HRT.out (by rw [hkn]; rfl))
            have HCL := Lib.hid (HLT.out (by rw [hkn]; rfl))
            have HBAD := Lib.hid (fun k (hk : k < c + 1) (hno : ¬ nxOk n (plZ n R c) (im n L f i) k) (h : plOk n R T) => hno (by have := h c (by have h1 := HC.out; have h2 := HCL.out; omega) k hk; rwa [HRI.out] at this))
            have HPZ := Lib.hid (plZ_within HOK.out)
            clear hkn HSKIP HTAKE HRT HLT
            have hgi := CI.out.1
            have hgl := C.out.1
            have hzb : w.heap.size < wb.heap.size := (HT.out.box 0 (w.heap.size, [.int .i64 (n : Int), .slice av L cap]) rfl).1
            have R0 := Lib.hid (RowE.made wb wb.heap.size 28 2 (fun k => [.int .i64 (n : Int), vl k]) (Nat.le_refl _))
            have N0 := Lib.hid (show NX (wb.alloc (.cells #[] 28)) [wb.heap.size] 0 (phiN n) vl (nxt n (plZ n R c) (im n L f i) (c + 1)) from fun k hk => absurd hk (Nat.not_lt_zero _))
            have C0 := Lib.hid ((C.out.more (b := wb.heap.size) (Nat.le_refl _)).alloc (.cells #[] 28))
            have I0 := Lib.hid ((CI.out.more (b := wb.heap.size) (Nat.le_refl _)).alloc (.cells #[] 28))
            have T0 := Lib.hid (HT.out.alloc (.cells #[] 28))
            clear C CI HT
            go_wp2_with fail
            go_loopw [12, 13] (fun s12 s13 wx => ∃ (k gn cn : Nat) (vn : Nat → Value), k ≤ c + 2 ∧ s12 = .slice (some ⟨gn, 0, none⟩) k cn ∧ s13 = .int .i64 (k : Int) ∧ RowE wx wb.heap.size 28 2 gn cn k (fun j => [.int .i64 (n : Int), vn j]) ∧ NX wx [gn] k (phiN n) vn (nxt n (plZ n R c) (im n L f i) (c + 1)) ∧ (∀ j, j < k → j < c + 1 → nxOk n (plZ n R c) (im n L f i) j) ∧ CL wx g' (c + 1) (c + 1) n (phiN n) vl (plZ n R c) [gn] ∧ CL wx g (phiN n) (phiN n) n (phiN n) vs (im n L f) [gn] ∧ St w wx [(w.heap.size, [.int .i64 (n : Int), .slice av L cap])] [⟨o, lo, hi, .slice av L cap, L, f⟩]) (fun _ s13 _ => c + 2 - (intOf s13).toNat)
            case atStart => exact ⟨0, _, _, vl, by omega, rfl, rfl, R0.out, N0.out, fun j hj => absurd hj (Nat.not_lt_zero _), C0.out, I0.out, T0.out⟩
            case round =>
              clear R0 N0 C0 I0 T0
              obtain ⟨k, gn, cn, vn, hk, rfl, rfl, hr, hnx, hnk, hcl, hci, hst⟩ := hrel
              have RW := Lib.hid hr; clear hr
              have NW := Lib.hid hnx; clear hnx
              have NK := Lib.hid hnk; clear hnk
              have C := Lib.hid hcl; clear hcl
              have CI := Lib.hid hci; clear hci
              have HT := Lib.hid hst; clear hst
              obtain ⟨hl, hl'⟩ := RW.out.lt
              by_cases hlk : k < c + 2
              · have hk2 : (k : Int) ≤ (c : Int) + 1 := by omega
                obtain ⟨x0, x1⟩ := (HT.out.box 0 (w.heap.size, [.int .i64 (n : Int), .slice av L cap]) rfl).cell2
                dsimp only at x0 x1
                go_wp2_with fail
                refine (l01Zero_any n (by omega) _).mono ?_
                rintro e w4 ⟨a4, k4, rfl, s4, b4⟩
                have hz4 := b4.size
                have hg4 : g' < w4.heap.size := by omega
                have hg5 : g < w4.heap.size := by omega
                have hg6 : gn < w4.heap.size := by omega
                have C4 := Lib.hid ((C.out.keep b4 (Nat.le_refl _)).more (b := w4.heap.size) (Nat.le_refl _))
                have I4 := Lib.hid ((CI.out.keep b4 (Nat.le_refl _)).more (b := w4.heap.size) (Nat.le_refl _))
                have N4 := Lib.hid ((NW.out.keep b4 (Nat.le_refl _)).more (b := w4.heap.size) (Nat.le_refl _))
                have R4 := Lib.hid (RW.out.keep b4 (Nat.le_refl _))
                have T4 := Lib.hid (HT.out.keep b4)
                have S4 := Lib.hid s4
                clear C CI NW RW HT s4 b4 x0 x1
                by_cases hk0 : k = 0
                · subst hk0
                  have hlk1 : 0 < c + 1 := by omega
                  have hk4 : (0 : Int) < (c : Int) + 1 := by omega
                  have C5 := Lib.hid (C4.out.alloc (.cells #[.int .i64 (n : Int), .slice a4 (phiN n) k4] 28))
                  have I5 := Lib.hid (I4.out.alloc (.cells #[.int .i64 (n : Int), .slice a4 (phiN n) k4] 28))
                  have N5 := Lib.hid (N4.out.alloc (.cells #[.int .i64 (n : Int), .slice a4 (phiN n) k4] 28))
                  have R5 := Lib.hid (R4.out.alloc (.cells #[.int .i64 (n : Int), .slice a4 (phiN n) k4] 28))
                  have T5 := Lib.hid (T4.out.boxNew (.int .i64 (n : Int)) (.slice a4 (phiN n) k4) 28)
                  have SO := Lib.hid (show Sl false (w4.alloc (.cells #[.int .i64 (n : Int), .slice a4 (phiN n) k4] 28)) _ _ (.slice a4 (phiN n) k4) (phiN n) (bef (plZ n R c) (0)) from (S4.out.rd.alloc _).congr (fun j hj => by unfold bef; rw [if_pos rfl]))
                  have e0 := I5.out.c0 hlt
                  have e1 := I5.out.c1 hlt
                  have d2 := C5.out.c0 hlk1
                  have d3 := C5.out.c1 hlk1
                  obtain ⟨l1, h1', _, hv1⟩ := I5.out.2.2.2 i hlt
                  obtain ⟨l2, h2', _, hv2⟩ := C5.out.2.2.2 _ hlk1
                  have HPW := Lib.hid (l01Times_any n hn1 hn2 (w4.alloc (.cells #[.int .i64 (n : Int), .slice a4 (phiN n) k4] 28)).drew hv1.drew hv2.drew (HIM.out i) (Within.big (HPZ.out _ hlk1)) hp0 hp)
                  have HPA := Lib.hid (l01Times_any n hn1 hn2 ((w4.alloc (.cells #[.int .i64 (n : Int), .slice a4 (phiN n) k4] 28)).alloc (.cells #[.int .i64 0, .slice none 0 0] 28)).drew (hv1.alloc (.cells #[.int .i64 0, .slice none 0 0] 28)).drew (hv2.alloc (.cells #[.int .i64 0, .slice none 0 0] 28)).drew (HIM.out i) (Within.big (HPZ.out _ hlk1)) hp0 hp)
                  rw [prodZ_comm n (phiN n) (im n L f i)] at HPW HPA
                  have HZB := Lib.hid (Box.made (w4.alloc (.cells #[.int .i64 (n : Int), .slice a4 (phiN n) k4] 28)) #[.int .i64 0, .slice none 0 0] 28 [.int .i64 0, .slice none 0 0] (fun j v h => by simpa using h))
                  clear hv1 hv2 C4 I4 N4 R4 T4
                  go_wp2_with fail
                  go_cut [15, 16] from 62 to 99 (fun s15 s16 wx => ∃ (b15 lo7 hi7 : Nat) (a7 : Option Addr) (k7 : Nat) (b : Bool), s15 = .pointer (some ⟨b15, 0, none⟩) ∧ s16 = .bool b ∧ (b = true ↔ Within (prodZ n (phiN n) (plZ n R c (0)) (im n L f i)) (phiN n) 1000000000) ∧ Below (w4.alloc (.cells #[.int .i64 (n : Int), .slice a4 (phiN n) k4] 28)).heap.size (w4.alloc (.cells #[.int .i64 (n : Int), .slice a4 (phiN n) k4] 28)) wx ∧ Box wx b15 [.int .i64 (n : Int), .slice a7 (phiN n) k7] ∧ (b = true → Sl true wx lo7 hi7 (.slice a7 (phiN n) k7) (phiN n) (prodZ n (phiN n) (plZ n R c (0)) (im n L f i))))
                  case first =>
                    go_region_law (first
                      | (go_simp; go_at_call 165; refine HPW.out.mono ?_; rintro e w7 ⟨a7, k7, b, rfl, hb, s7, b7⟩
                         have s7' := fun hb => (s7 hb).alloc (.cells #[.int .i64 (n : Int), .slice a7 (phiN n) k7] 28)
                         have b7' := ((Below.refl (w4.alloc (.cells #[.int .i64 (n : Int), .slice a4 (phiN n) k4] 28)).heap.size (w4.alloc (.cells #[.int .i64 (n : Int), .slice a4 (phiN n) k4] 28))).drew.trans b7).alloc b7.size (.cells #[.int .i64 (n : Int), .slice a7 (phiN n) k7] 28))
                      | (go_simp; go_at_call 165; refine HPA.out.mono ?_; rintro e w7 ⟨a7, k7, b, rfl, hb, s7, b7⟩
                         have b7' := (Below.refl ((w4.alloc (.cells #[.int .i64 (n : Int), .slice a4 (phiN n) k4] 28)).alloc (.cells #[.int .i64 0, .slice none 0 0] 28)).heap.size ((w4.alloc (.cells #[.int .i64 (n : Int), .slice a4 (phiN n) k4] 28)).alloc (.cells #[.int .i64 0, .slice none 0 0] 28))).drew.trans b7
                         have bx7 := HZB.out.keep b7'
                         simp only [World.size_alloc] at bx7
                         obtain ⟨q0', q1'⟩ := bx7.cell2
                         have qz' := bx7.2.2
                         skip))
                    all_goals
                      go_wp2_with fail
                      go_meet
                      first
                        | exact ⟨w7.heap.size, _, _, a7, k7, b, rfl, rfl, hb, b7', Box.made2 rfl, s7'⟩
                        | exact ⟨_, _, _, a7, k7, b, rfl, rfl, hb, (((((Below.refl (w4.alloc (.cells #[.int .i64 (n : Int), .slice a4 (phiN n) k4] 28)).heap.size (w4.alloc (.cells #[.int .i64 (n : Int), .slice a4 (phiN n) k4] 28))).alloc (Nat.le_refl _) (.cells #[.int .i64 0, .slice none 0 0] 28)).trans (b7'.mono (by simp))).setCell (p := ⟨w4.heap.size + 1, 0, none⟩) (by simp) _).setCell (p := ⟨w4.heap.size + 1, 1, none⟩) (by simp) _), bx7.set2, fun hb => ((s7 hb).setOther (.inl (by simp)) _).setOther (.inl (by simp)) _⟩
                  case rest =>
                    obtain ⟨b15, lo7, hi7, a7, k7, b, rfl, rfl, hb, bel, bx, s7⟩ := hcut
                    have hzc := bel.size
                    simp only [World.size_alloc] at hzc
                    have C6 := Lib.hid (C5.out.keep bel (Nat.le_refl _))
                    have I6 := Lib.hid (I5.out.keep bel (Nat.le_refl _))
                    have N6 := Lib.hid (N5.out.keep bel (Nat.le_refl _))
                    have R6 := Lib.hid (R5.out.keep bel (Nat.le_refl _))
                    have T6 := Lib.hid (T5.out.keep bel)
                    have SO6 := Lib.hid (SO.out.keep bel SO.out.size)
                    have S7 := Lib.hid s7
                    have HB := Lib.hid hb
                    obtain ⟨t0, t1⟩ := bx.cell2
                    clear C5 I5 N5 R5 T5 SO s7 hb bx bel HPW HPA HZB e0 e1 d2 d3
                    cases b with
                    | false =>
                      have HN := Lib.hid (HBAD.out _ hlk1 (fun h => by have := HB.out.2 h.1; cases this))
                      have BB := T6.out.1
                      clear C6 I6 N6 R6 T6 SO6 S7
                      go_wp2_with fail
                      go_ret2
                      have hR := HRQ.out
                      have hT := HTQ.out
                      subst hR
                      subst hT
                      exact ⟨.inr ⟨HN.out, rfl⟩, BB⟩
                    | true =>
                      have HP := Lib.hid (HB.out.1 rfl)
                      obtain ⟨y0, y1⟩ := (T6.out.box 0 (w4.heap.size, [.int .i64 (n : Int), .slice a4 (phiN n) k4]) rfl).cell2
                      dsimp only at y0 y1
                      have HPL := Lib.hid (l01Plus_any (n : Int) (-1) wc SO6.out (S7.out rfl) (by omega) (by omega) (bef_within HPZ.out (by omega)) HP.out (by omega))
                      go_wp2_with fail
                      refine HPL.out.mono ?_
                      rintro e w8 ⟨aw, kw, rfl, sw, b8⟩
                      have hz8 := b8.size
                      have T7 := T6.out.keep b8
                      obtain ⟨y2, y3⟩ := (T7.box 0 (w4.heap.size, [.int .i64 (n : Int), .slice a4 (phiN n) k4]) rfl).cell2
                      have yz := (T7.box 0 (w4.heap.size, [.int .i64 (n : Int), .slice a4 (phiN n) k4]) rfl).2.2
                      dsimp only at y2 y3 yz
                      have C8 := Lib.hid (((C6.out.keep b8 (Nat.le_refl _)).setOther (b := w4.heap.size) (o := 0) (by simp) (by omega) (.int .i64 (n : Int))).setOther (b := w4.heap.size) (o := 1) (by simp) (by omega) (.slice aw (phiN n) kw))
                      have I8 := Lib.hid (((I6.out.keep b8 (Nat.le_refl _)).setOther (b := w4.heap.size) (o := 0) (by simp) (by omega) (.int .i64 (n : Int))).setOther (b := w4.heap.size) (o := 1) (by simp) (by omega) (.slice aw (phiN n) kw))
                      have N8 := Lib.hid ((N6.out.keep b8 (Nat.le_refl _)).frame (((Frame.refl w4.heap.size (w4.heap.size + 1) w8).setCell (Nat.le_refl _) (Nat.lt_succ_self _) (.int .i64 (n : Int)) (p := ⟨w4.heap.size, 0, none⟩)).setCell (Nat.le_refl _) (Nat.lt_succ_self _) (.slice aw (phiN n) kw) (p := ⟨w4.heap.size, 1, none⟩)) (by simp))
                      have R8 := Lib.hid ((R6.out.keep b8 (Nat.le_refl _)).keepF (((Frame.refl w4.heap.size (w4.heap.size + 1) w8).setCell (Nat.le_refl _) (Nat.lt_succ_self _) (.int .i64 (n : Int)) (p := ⟨w4.heap.size, 0, none⟩)).setCell (Nat.le_refl _) (Nat.lt_succ_self _) (.slice aw (phiN n) kw) (p := ⟨w4.heap.size, 1, none⟩)) (by omega))
                      have T8 := Lib.hid (T7.boxSet (u0 := .int .i64 (n : Int)) (u1 := .slice aw (phiN n) kw) (by omega) (by intro b hb; simp only [List.mem_cons, List.not_mem_nil, or_false] at hb; rcases hb with rfl <;> dsimp only <;> omega) (by intro s hs'; simp only [List.mem_cons, List.not_mem_nil, or_false] at hs'; rcases hs' with rfl <;> dsimp only <;> omega))
                      have S8 := Lib.hid (show Sl false ((w8.setCell ⟨w4.heap.size, 0, none⟩ (.int .i64 (n : Int))).setCell ⟨w4.heap.size, 1, none⟩ (.slice aw (phiN n) kw)) wc.heap.size w8.heap.size (.slice aw (phiN n) kw) (phiN n) (nxt n (plZ n R c) (im n L f i) (c + 1) (0)) from by
                        unfold nxt
                        rw [if_pos hlk1]
                        exact ((sw.setOther (.inl (by show w4.heap.size < wc.heap.size; omega)) _).setOther (.inl (by show w4.heap.size < wc.heap.size; omega)) _).rd)
                      have HA := Lib.hid (show ∀ b ∈ [gn], b < wc.heap.size ∨ w8.heap.size ≤ b from by intro b hb; simp only [List.mem_cons, List.not_mem_nil, or_false] at hb; subst hb; omega)
                      clear C6 I6 N6 R6 T6 T7 SO6 S7 sw b8 HPL y0 y1 t0 t1
                      go_wp2_with fail
                      by_cases hS : Within (nxt n (plZ n R c) (im n L f i) (c + 1) (0)) (phiN n) 1000000000
                      · have HNX := Lib.hid (show nxOk n (plZ n R c) (im n L f i) (0) from ⟨HP.out, by unfold nxt at hS; rwa [if_pos hlk1] at hS⟩)
                        refine (l01Fits_yes (n : Int) _ S8.out hS).mono ?_
                        clear hS
                        rintro e w9 ⟨rfl, b9⟩
                        have hz9 := b9.size
                        try simp only [World.size_setCell] at hz9
                        have C9 := Lib.hid (C8.out.keep b9 (Nat.le_refl _))
                        have I9 := Lib.hid (I8.out.keep b9 (Nat.le_refl _))
                        have N9 := Lib.hid (N8.out.keep b9 (Nat.le_refl _))
                        have R9 := Lib.hid (R8.out.keep b9 (Nat.le_refl _))
                        have T9 := Lib.hid (T8.out.keep b9)
                        have S9 := Lib.hid (S8.out.keep b9 S8.out.size)
                        clear C8 I8 N8 R8 T8 S8 b9 y2 y3 yz
                        have HBX := (T9.out.box 0 (w4.heap.size, [.int .i64 (n : Int), .slice aw (phiN n) kw]) rfl).cell2
                        have v0 := HBX.1
                        have v1 := HBX.2
                        dsimp only at v0 v1
                        clear HBX
                        have hgn9 := (R9.out.lt).2
                        go_wp2_with (first
                          | (at_builtin; refine wpList_pushC rfl (.tmp 96) (.tmp 98) rfl rfl wb.heap.size gn cn (0) (fun _ => (n : Int)) vn rfl (R9.out.alloc _) w9.heap.size (n : Int) (.slice aw (phiN n) kw) rfl rfl (heap_alloc_new w9 _) (by omega) ?_; intro gA kA wA rowA grA orA ltA
                             have frA := Frame.ofGrown grA
                             have CA := Lib.hid (((C9.out.sub (bs' := [gn]) (by simp)).alloc (.cells #[.int .i64 (n : Int), .slice aw (phiN n) kw] 28)).grown frA (by omega) orA)
                             have IA := Lib.hid (((I9.out.sub (bs' := [gn]) (by simp)).alloc (.cells #[.int .i64 (n : Int), .slice aw (phiN n) kw] 28)).grown frA (by omega) orA)
                             have NA := Lib.hid ((((N9.out.sub (bs' := [gn]) (by simp)).push S9.out HA.out).alloc (.cells #[.int .i64 (n : Int), .slice aw (phiN n) kw] 28)).grown frA orA)
                             have TA := Lib.hid ((T9.out.tailB.alloc (.cells #[.int .i64 (n : Int), .slice aw (phiN n) kw] 28)).write frA (by omega) (by intro b hb; simp only [List.mem_cons, List.not_mem_nil, or_false] at hb; rcases hb with rfl <;> dsimp only <;> omega) (by intro s hs'; simp only [List.mem_cons, List.not_mem_nil, or_false] at hs'; rcases hs' with rfl <;> dsimp only <;> omega))
                             have RA := Lib.hid rowA
                             simp only [World.size_alloc] at orA
                             clear rowA grA frA C9 I9 N9 R9 T9 S9 v0 v1))
                        go_roundw
                        case rel =>
                          exact ⟨0 + 1, gA, kA, fun j => if j < 0 then vn j else .slice aw (phiN n) kw, by omega, rfl, by go_num, RA.out.congr (fun j hj => by
                              by_cases e : j < 0
                              · rw [if_pos e]; dsimp only; rw [if_pos e]
                              · rw [if_neg e]; dsimp only; rw [if_neg e]), NA.out, (fun j hj hj2 => by
                              by_cases e : j < 0
                              · exact NK.out j e hj2
                              · obtain rfl : j = 0 := by omega
                                exact HNX.out), CA.out, IA.out, TA.out⟩
                        case measure => simp [intOf] <;> omega
                      · have HN := Lib.hid (HBAD.out _ hlk1 (fun h => hS (by unfold nxt; rw [if_pos hlk1]; exact h.2)))
                        refine (l01Fits_no (n : Int) _ S8.out hS).mono ?_
                        clear hS
                        rintro e w9 ⟨rfl, b9⟩
                        have BB := (T8.out.keep b9).1
                        clear C8 I8 N8 R8 T8 S8 b9 y2 y3 yz
                        go_wp2_with fail
                        go_ret2
                        have hR := HRQ.out
                        have hT := HTQ.out
                        subst hR
                        subst hT
                        exact ⟨.inr ⟨HN.out, rfl⟩, BB⟩
                · obtain ⟨m, rfl⟩ : ∃ m, k = m + 1 := ⟨k - 1, by omega⟩
                  have hm2 : (m : Int) < (c : Int) + 1 := by omega
                  have hk3 : ¬ ((m : Int) + 1 ≤ 0) := by omega
                  have d0 := C4.out.c0 (k := m) (by omega)
                  have d1 := C4.out.c1 (k := m) (by omega)
                  obtain ⟨l8, h8, hd8, q8⟩ := C4.out.2.2.2 m (by omega)
                  obtain ⟨a8, k8, hv8⟩ := q8.shape
                  rw [hv8] at d1 q8
                  have S8 := Lib.hid q8
                  clear hv8 q8
                  by_cases hlk1 : m + 1 < c + 1
                  · have hk4 : (m : Int) + 1 < (c : Int) + 1 := by omega
                    have hk5 : (m : Int) < (c : Int) := by omega
                    have hk6 : (0 : Int) ≤ (m : Int) + 1 := by omega
                    have hk7 : ¬ ((m : Int) + 1 < 0) := by omega
                    have hk8 : ((m : Int) + 1).toNat = m + 1 := by omega
                    have C5 := Lib.hid (C4.out.alloc (.cells #[.int .i64 (n : Int), .slice a8 (phiN n) k8] 28))
                    have I5 := Lib.hid (I4.out.alloc (.cells #[.int .i64 (n : Int), .slice a8 (phiN n) k8] 28))
                    have N5 := Lib.hid (N4.out.alloc (.cells #[.int .i64 (n : Int), .slice a8 (phiN n) k8] 28))
                    have R5 := Lib.hid (R4.out.alloc (.cells #[.int .i64 (n : Int), .slice a8 (phiN n) k8] 28))
                    have T5 := Lib.hid (T4.out.boxNew (.int .i64 (n : Int)) (.slice a8 (phiN n) k8) 28)
                    have SO := Lib.hid (show Sl false (w4.alloc (.cells #[.int .i64 (n : Int), .slice a8 (phiN n) k8] 28)) _ _ (.slice a8 (phiN n) k8) (phiN n) (bef (plZ n R c) (m + 1)) from (S8.out.alloc _).congr (fun j hj => by unfold bef; rw [if_neg (Nat.succ_ne_zero _), Nat.add_sub_cancel]))
                    have e0 := I5.out.c0 hlt
                    have e1 := I5.out.c1 hlt
                    have d2 := C5.out.c0 hlk1
                    have d3 := C5.out.c1 hlk1
                    obtain ⟨l1, h1', _, hv1⟩ := I5.out.2.2.2 i hlt
                    obtain ⟨l2, h2', _, hv2⟩ := C5.out.2.2.2 _ hlk1
                    have HPW := Lib.hid (l01Times_any n hn1 hn2 (w4.alloc (.cells #[.int .i64 (n : Int), .slice a8 (phiN n) k8] 28)).drew hv1.drew hv2.drew (HIM.out i) (Within.big (HPZ.out _ hlk1)) hp0 hp)
                    have HPA := Lib.hid (l01Times_any n hn1 hn2 ((w4.alloc (.cells #[.int .i64 (n : Int), .slice a8 (phiN n) k8] 28)).alloc (.cells #[.int .i64 0, .slice none 0 0] 28)).drew (hv1.alloc (.cells #[.int .i64 0, .slice none 0 0] 28)).drew (hv2.alloc (.cells #[.int .i64 0, .slice none 0 0] 28)).drew (HIM.out i) (Within.big (HPZ.out _ hlk1)) hp0 hp)
                    rw [prodZ_comm n (phiN n) (im n L f i)] at HPW HPA
                    have HZB := Lib.hid (Box.made (w4.alloc (.cells #[.int .i64 (n : Int), .slice a8 (phiN n) k8] 28)) #[.int .i64 0, .slice none 0 0] 28 [.int .i64 0, .slice none 0 0] (fun j v h => by simpa using h))
                    clear hv1 hv2 C4 I4 N4 R4 T4
                    go_wp2_with fail
                    go_cut [15, 16] from 62 to 99 (fun s15 s16 wx => ∃ (b15 lo7 hi7 : Nat) (a7 : Option Addr) (k7 : Nat) (b : Bool), s15 = .pointer (some ⟨b15, 0, none⟩) ∧ s16 = .bool b ∧ (b = true ↔ Within (prodZ n (phiN n) (plZ n R c (m + 1)) (im n L f i)) (phiN n) 1000000000) ∧ Below (w4.alloc (.cells #[.int .i64 (n : Int), .slice a8 (phiN n) k8] 28)).heap.size (w4.alloc (.cells #[.int .i64 (n : Int), .slice a8 (phiN n) k8] 28)) wx ∧ Box wx b15 [.int .i64 (n : Int), .slice a7 (phiN n) k7] ∧ (b = true → Sl true wx lo7 hi7 (.slice a7 (phiN n) k7) (phiN n) (prodZ n (phiN n) (plZ n R c (m + 1)) (im n L f i))))
                    case first =>
                      go_region_law (first
                        | (go_simp; go_at_call 165; refine HPW.out.mono ?_; rintro e w7 ⟨a7, k7, b, rfl, hb, s7, b7⟩
                           have s7' := fun hb => (s7 hb).alloc (.cells #[.int .i64 (n : Int), .slice a7 (phiN n) k7] 28)
                           have b7' := ((Below.refl (w4.alloc (.cells #[.int .i64 (n : Int), .slice a8 (phiN n) k8] 28)).heap.size (w4.alloc (.cells #[.int .i64 (n : Int), .slice a8 (phiN n) k8] 28))).drew.trans b7).alloc b7.size (.cells #[.int .i64 (n : Int), .slice a7 (phiN n) k7] 28))
                        | (go_simp; go_at_call 165; refine HPA.out.mono ?_; rintro e w7 ⟨a7, k7, b, rfl, hb, s7, b7⟩
                           have b7' := (Below.refl ((w4.alloc (.cells #[.int .i64 (n : Int), .slice a8 (phiN n) k8] 28)).alloc (.cells #[.int .i64 0, .slice none 0 0] 28)).heap.size ((w4.alloc (.cells #[.int .i64 (n : Int), .slice a8 (phiN n) k8] 28)).alloc (.cells #[.int .i64 0, .slice none 0 0] 28))).drew.trans b7
                           have bx7 := HZB.out.keep b7'
                           simp only [World.size_alloc] at bx7
                           obtain ⟨q0', q1'⟩ := bx7.cell2
                           have qz' := bx7.2.2
                           skip))
                      all_goals
                        go_wp2_with fail
                        go_meet
                        first
                          | exact ⟨w7.heap.size, _, _, a7, k7, b, rfl, rfl, hb, b7', Box.made2 rfl, s7'⟩
                          | exact ⟨_, _, _, a7, k7, b, rfl, rfl, hb, (((((Below.refl (w4.alloc (.cells #[.int .i64 (n : Int), .slice a8 (phiN n) k8] 28)).heap.size (w4.alloc (.cells #[.int .i64 (n : Int), .slice a8 (phiN n) k8] 28))).alloc (Nat.le_refl _) (.cells #[.int .i64 0, .slice none 0 0] 28)).trans (b7'.mono (by simp))).setCell (p := ⟨w4.heap.size + 1, 0, none⟩) (by simp) _).setCell (p := ⟨w4.heap.size + 1, 1, none⟩) (by simp) _), bx7.set2, fun hb => ((s7 hb).setOther (.inl (by simp)) _).setOther (.inl (by simp)) _⟩
                    case rest =>
                      obtain ⟨b15, lo7, hi7, a7, k7, b, rfl, rfl, hb, bel, bx, s7⟩ := hcut
                      have hzc := bel.size
                      simp only [World.size_alloc] at hzc
                      have C6 := Lib.hid (C5.out.keep bel (Nat.le_refl _))
                      have I6 := Lib.hid (I5.out.keep bel (Nat.le_refl _))
                      have N6 := Lib.hid (N5.out.keep bel (Nat.le_refl _))
                      have R6 := Lib.hid (R5.out.keep bel (Nat.le_refl _))
                      have T6 := Lib.hid (T5.out.keep bel)
                      have SO6 := Lib.hid (SO.out.keep bel SO.out.size)
                      have S7 := Lib.hid s7
                      have HB := Lib.hid hb
                      obtain ⟨t0, t1⟩ := bx.cell2
                      clear C5 I5 N5 R5 T5 SO s7 hb bx bel HPW HPA HZB e0 e1 d2 d3
                      cases b with
                      | false =>
                        have HN := Lib.hid (HBAD.out _ hlk1 (fun h => by have := HB.out.2 h.1; cases this))
                        have BB := T6.out.1
                        clear C6 I6 N6 R6 T6 SO6 S7
                        go_wp2_with fail
                        go_ret2
                        have hR := HRQ.out
                        have hT := HTQ.out
                        subst hR
                        subst hT
                        exact ⟨.inr ⟨HN.out, rfl⟩, BB⟩
                      | true =>
                        have HP := Lib.hid (HB.out.1 rfl)
                        obtain ⟨y0, y1⟩ := (T6.out.box 0 (w4.heap.size, [.int .i64 (n : Int), .slice a8 (phiN n) k8]) rfl).cell2
                        dsimp only at y0 y1
                        have HPL := Lib.hid (l01Plus_any (n : Int) (-1) wc SO6.out (S7.out rfl) (by omega) (by omega) (bef_within HPZ.out (by omega)) HP.out (by omega))
                        go_wp2_with fail
                        refine HPL.out.mono ?_
                        rintro e w8 ⟨aw, kw, rfl, sw, b8⟩
                        have hz8 := b8.size
                        have T7 := T6.out.keep b8
                        obtain ⟨y2, y3⟩ := (T7.box 0 (w4.heap.size, [.int .i64 (n : Int), .slice a8 (phiN n) k8]) rfl).cell2
                        have yz := (T7.box 0 (w4.heap.size, [.int .i64 (n : Int), .slice a8 (phiN n) k8]) rfl).2.2
                        dsimp only at y2 y3 yz
                        have C8 := Lib.hid (((C6.out.keep b8 (Nat.le_refl _)).setOther (b := w4.heap.size) (o := 0) (by simp) (by omega) (.int .i64 (n : Int))).setOther (b := w4.heap.size) (o := 1) (by simp) (by omega) (.slice aw (phiN n) kw))
                        have I8 := Lib.hid (((I6.out.keep b8 (Nat.le_refl _)).setOther (b := w4.heap.size) (o := 0) (by simp) (by omega) (.int .i64 (n : Int))).setOther (b := w4.heap.size) (o := 1) (by simp) (by omega) (.slice aw (phiN n) kw))
                        have N8 := Lib.hid ((N6.out.keep b8 (Nat.le_refl _)).frame (((Frame.refl w4.heap.size (w4.heap.size + 1) w8).setCell (Nat.le_refl _) (Nat.lt_succ_self _) (.int .i64 (n : Int)) (p := ⟨w4.heap.size, 0, none⟩)).setCell (Nat.le_refl _) (Nat.lt_succ_self _) (.slice aw (phiN n) kw) (p := ⟨w4.heap.size, 1, none⟩)) (by simp))
                        have R8 := Lib.hid ((R6.out.keep b8 (Nat.le_refl _)).keepF (((Frame.refl w4.heap.size (w4.heap.size + 1) w8).setCell (Nat.le_refl _) (Nat.lt_succ_self _) (.int .i64 (n : Int)) (p := ⟨w4.heap.size, 0, none⟩)).setCell (Nat.le_refl _) (Nat.lt_succ_self _) (.slice aw (phiN n) kw) (p := ⟨w4.heap.size, 1, none⟩)) (by omega))
                        have T8 := Lib.hid (T7.boxSet (u0 := .int .i64 (n : Int)) (u1 := .slice aw (phiN n) kw) (by omega) (by intro b hb; simp only [List.mem_cons, List.not_mem_nil, or_false] at hb; rcases hb with rfl <;> dsimp only <;> omega) (by intro s hs'; simp only [List.mem_cons, List.not_mem_nil, or_false] at hs'; rcases hs' with rfl <;> dsimp only <;> omega))
                        have S8 := Lib.hid (show Sl false ((w8.setCell ⟨w4.heap.size, 0, none⟩ (.int .i64 (n : Int))).setCell ⟨w4.heap.size, 1, none⟩ (.slice aw (phiN n) kw)) wc.heap.size w8.heap.size (.slice aw (phiN n) kw) (phiN n) (nxt n (plZ n R c) (im n L f i) (c + 1) (m + 1)) from by
                          unfold nxt
                          rw [if_pos hlk1]
                          exact ((sw.setOther (.inl (by show w4.heap.size < wc.heap.size; omega)) _).setOther (.inl (by show w4.heap.size < wc.heap.size; omega)) _).rd)
                        have HA := Lib.hid (show ∀ b ∈ [gn], b < wc.heap.size ∨ w8.heap.size ≤ b from by intro b hb; simp only [List.mem_cons, List.not_mem_nil, or_false] at hb; subst hb; omega)
                        clear C6 I6 N6 R6 T6 T7 SO6 S7 sw b8 HPL y0 y1 t0 t1
                        go_wp2_with fail
                        by_cases hS : Within (nxt n (plZ n R c) (im n L f i) (c + 1) (m + 1)) (phiN n) 1000000000
                        · have HNX := Lib.hid (show nxOk n (plZ n R c) (im n L f i) (m + 1) from ⟨HP.out, by unfold nxt at hS; rwa [if_pos hlk1] at hS⟩)
                          refine (l01Fits_yes (n : Int) _ S8.out hS).mono ?_
                          clear hS
                          rintro e w9 ⟨rfl, b9⟩
                          have hz9 := b9.size
                          try simp only [World.size_setCell] at hz9
                          have C9 := Lib.hid (C8.out.keep b9 (Nat.le_refl _))
                          have I9 := Lib.hid (I8.out.keep b9 (Nat.le_refl _))
                          have N9 := Lib.hid (N8.out.keep b9 (Nat.le_refl _))
                          have R9 := Lib.hid (R8.out.keep b9 (Nat.le_refl _))
                          have T9 := Lib.hid (T8.out.keep b9)
                          have S9 := Lib.hid (S8.out.keep b9 S8.out.size)
                          clear C8 I8 N8 R8 T8 S8 b9 y2 y3 yz
                          have HBX := (T9.out.box 0 (w4.heap.size, [.int .i64 (n : Int), .slice aw (phiN n) kw]) rfl).cell2
                          have v0 := HBX.1
                          have v1 := HBX.2
                          dsimp only at v0 v1
                          clear HBX
                          have hgn9 := (R9.out.lt).2
                          go_wp2_with (first
                            | (at_builtin; refine wpList_pushC rfl (.tmp 96) (.tmp 98) rfl rfl wb.heap.size gn cn (m + 1) (fun _ => (n : Int)) vn rfl (R9.out.alloc _) w9.heap.size (n : Int) (.slice aw (phiN n) kw) rfl rfl (heap_alloc_new w9 _) (by omega) ?_; intro gA kA wA rowA grA orA ltA
                               have frA := Frame.ofGrown grA
                               have CA := Lib.hid (((C9.out.sub (bs' := [gn]) (by simp)).alloc (.cells #[.int .i64 (n : Int), .slice aw (phiN n) kw] 28)).grown frA (by omega) orA)
                               have IA := Lib.hid (((I9.out.sub (bs' := [gn]) (by simp)).alloc (.cells #[.int .i64 (n : Int), .slice aw (phiN n) kw] 28)).grown frA (by omega) orA)
                               have NA := Lib.hid ((((N9.out.sub (bs' := [gn]) (by simp)).push S9.out HA.out).alloc (.cells #[.int .i64 (n : Int), .slice aw (phiN n) kw] 28)).grown frA orA)
                               have TA := Lib.hid ((T9.out.tailB.alloc (.cells #[.int .i64 (n : Int), .slice aw (phiN n) kw] 28)).write frA (by omega) (by intro b hb; simp only [List.mem_cons, List.not_mem_nil, or_false] at hb; rcases hb with rfl <;> dsimp only <;> omega) (by intro s hs'; simp only [List.mem_cons, List.not_mem_nil, or_false] at hs'; rcases hs' with rfl <;> dsimp only <;> omega))
                               have RA := Lib.hid rowA
                               simp only [World.size_alloc] at orA
                               clear rowA grA frA C9 I9 N9 R9 T9 S9 v0 v1))
                          go_roundw
                          case rel =>
                            exact ⟨m + 1 + 1, gA, kA, fun j => if j < m + 1 then vn j else .slice aw (phiN n) kw, by omega, rfl, by go_num, RA.out.congr (fun j hj => by
                                by_cases e : j < m + 1
                                · rw [if_pos e]; dsimp only; rw [if_pos e]
                                · rw [if_neg e]; dsimp only; rw [if_neg e]), NA.out, (fun j hj hj2 => by
                                by_cases e : j < m + 1
                                · exact NK.out j e hj2
                                · obtain rfl : j = m + 1 := by omega
                                  exact HNX.out), CA.out, IA.out, TA.out⟩
                          case measure => simp [intOf] <;> omega
                        · have HN := Lib.hid (HBAD.out _ hlk1 (fun h => hS (by unfold nxt; rw [if_pos hlk1]; exact h.2)))
                          refine (l01Fits_no (n : Int) _ S8.out hS).mono ?_
                          clear hS
                          rintro e w9 ⟨rfl, b9⟩
                          have BB := (T8.out.keep b9).1
                          clear C8 I8 N8 R8 T8 S8 b9 y2 y3 yz
                          go_wp2_with fail
                          go_ret2
                          have hR := HRQ.out
                          have hT := HTQ.out
                          subst hR
                          subst hT
                          exact ⟨.inr ⟨HN.out, rfl⟩, BB⟩
                  · have hk4 : ¬ ((m : Int) + 1 < (c : Int) + 1) := by omega
                    have hk5 : ¬ ((m : Int) < (c : Int)) := by omega
                    have hwn : nxt n (plZ n R c) (im n L f i) (c + 1) (m + 1) = plZ n R c m := by
                      unfold nxt bef
                      rw [if_neg hlk1, if_neg (Nat.succ_ne_zero _), Nat.add_sub_cancel]
                    have C5 := Lib.hid (C4.out.alloc (.cells #[.int .i64 (n : Int), .slice a8 (phiN n) k8] 28))
                    have I5 := Lib.hid (I4.out.alloc (.cells #[.int .i64 (n : Int), .slice a8 (phiN n) k8] 28))
                    have N5 := Lib.hid (N4.out.alloc (.cells #[.int .i64 (n : Int), .slice a8 (phiN n) k8] 28))
                    have R5 := Lib.hid (R4.out.alloc (.cells #[.int .i64 (n : Int), .slice a8 (phiN n) k8] 28))
                    have T5 := Lib.hid (T4.out.boxNew (.int .i64 (n : Int)) (.slice a8 (phiN n) k8) 28)
                    have S5 := Lib.hid (show Sl false (w4.alloc (.cells #[.int .i64 (n : Int), .slice a8 (phiN n) k8] 28)) l8 h8 (.slice a8 (phiN n) k8) (phiN n) (nxt n (plZ n R c) (im n L f i) (c + 1) (m + 1)) from by rw [hwn]; exact S8.out.alloc _)
                    have HW := Lib.hid (show Within (nxt n (plZ n R c) (im n L f i) (c + 1) (m + 1)) (phiN n) 1000000000 from by rw [hwn]; exact HPZ.out m (by omega))
                    have HA := Lib.hid (show ∀ b ∈ [gn], b < l8 ∨ h8 ≤ b from by intro b hb; exact hd8 b (by simp only [List.mem_cons, List.not_mem_nil, or_false] at hb ⊢; right; exact hb))
                    clear hwn C4 I4 N4 R4 T4
                    go_wp2_with fail
                    refine (l01Fits_yes (n : Int) _ S5.out HW.out).mono ?_
                    rintro e w9 ⟨rfl, b9⟩
                    have hz9 := b9.size
                    simp only [World.size_alloc] at hz9
                    have C9 := Lib.hid (C5.out.keep b9 (Nat.le_refl _))
                    have I9 := Lib.hid (I5.out.keep b9 (Nat.le_refl _))
                    have N9 := Lib.hid (N5.out.keep b9 (Nat.le_refl _))
                    have R9 := Lib.hid (R5.out.keep b9 (Nat.le_refl _))
                    have T9 := Lib.hid (T5.out.keep b9)
                    have S9 := Lib.hid (S5.out.keep b9 S5.out.size)
                    clear C5 I5 N5 R5 T5 S5 b9
                    have HBX := (T9.out.box 0 (w4.heap.size, [.int .i64 (n : Int), .slice a8 (phiN n) k8]) rfl).cell2
                    have v0 := HBX.1
                    have v1 := HBX.2
                    dsimp only at v0 v1
                    clear HBX
                    have hgn9 := (R9.out.lt).2
                    go_wp2_with (first
                      | (at_builtin; refine wpList_pushC rfl (.tmp 96) (.tmp 98) rfl rfl wb.heap.size gn cn (m + 1) (fun _ => (n : Int)) vn rfl (R9.out.alloc _) w9.heap.size (n : Int) (.slice a8 (phiN n) k8) rfl rfl (heap_alloc_new w9 _) (by omega) ?_; intro gA kA wA rowA grA orA ltA
                         have frA := Frame.ofGrown grA
                         have CA := Lib.hid (((C9.out.sub (bs' := [gn]) (by simp)).alloc (.cells #[.int .i64 (n : Int), .slice a8 (phiN n) k8] 28)).grown frA (by omega) orA)
                         have IA := Lib.hid (((I9.out.sub (bs' := [gn]) (by simp)).alloc (.cells #[.int .i64 (n : Int), .slice a8 (phiN n) k8] 28)).grown frA (by omega) orA)
                         have NA := Lib.hid ((((N9.out.sub (bs' := [gn]) (by simp)).push S9.out HA.out).alloc (.cells #[.int .i64 (n : Int), .slice a8 (phiN n) k8] 28)).grown frA orA)
                         have TA := Lib.hid ((T9.out.tailB.alloc (.cells #[.int .i64 (n : Int), .slice a8 (phiN n) k8] 28)).write frA (by omega) (by intro b hb; simp only [List.mem_cons, List.not_mem_nil, or_false] at hb; rcases hb with rfl <;> dsimp only <;> omega) (by intro s hs'; simp only [List.mem_cons, List.not_mem_nil, or_false] at hs'; rcases hs' with rfl <;> dsimp only <;> omega))
                         have RA := Lib.hid rowA
                         simp only [World.size_alloc] at orA
                         clear rowA grA frA C9 I9 N9 R9 T9 S9 v0 v1))
                    go_roundw
                    case rel =>
                      exact ⟨m + 1 + 1, gA, kA, fun j => if j < m + 1 then vn j else .slice a8 (phiN n) k8, by omega, rfl, by go_num, RA.out.congr (fun j hj => by
                          by_cases e : j < m + 1
                          · rw [if_pos e]; dsimp only; rw [if_pos e]
                          · rw [if_neg e]; dsimp only; rw [if_neg e]), NA.out, (fun j hj hj2 => NK.out j (by omega) hj2), CA.out, IA.out, TA.out⟩
                    case measure => simp [intOf] <;> omega
              · obtain rfl : k = c + 2 := by omega
                go_wp2_with fail
                go_roundw
                case rel =>
                  have hR := HRQ.out
                  subst hR
                  refine ⟨i + 1, c + 1, gn, cn, vn, by omega, by rw [HCN.out, ← HC.out], by go_num, rfl, ?_, plOk_succ HOK.out (by rw [HRI.out]; exact fun j hj => NK.out j (by omega) hj), CI.out.less, HT.out⟩
                  show CL _ _ _ _ _ _ _ (nxt n (plZ n _ c) (_ : Nat → Int) (c + 1)) []
                  rw [HRI.out]
                  exact CL.ofRow (bs := []) RW.out (NX.sub NW.out (fun b hb => absurd hb List.not_mem_nil))
                case measure => simp [intOf] <;> omega
    · obtain rfl : i = phiN n := by omega
      obtain ⟨wb, hwb⟩ : ∃ x : World, x = wr := ⟨_, rfl⟩
      subst hwb
      have HPW := Lib.hid (plZ_within HOK.out)
      have hgw := C.out.1
      have hzb := HT.out.1.size
      have R0 := Lib.hid (Row.made wb wb.heap.size (fun k => plZ n (rtI n L f D) c k 0) (Nat.le_refl _))
      have C0 := Lib.hid ((C.out.more (b := wb.heap.size) (Nat.le_refl _)).alloc (.cells #[] 2))
      have B0 := Lib.hid (HT.out.1.alloc hzb (.cells #[] 2))
      clear C CI HT
      go_wp2_with fail
      go_loopw [17, 18] (fun s17 s18 wx => ∃ (k gn cn : Nat), k ≤ c + 1 ∧ s17 = .slice (some ⟨gn, 0, none⟩) k cn ∧ s18 = .int .i64 (k : Int) ∧ Row wx wb.heap.size gn cn k (fun k => plZ n (rtI n L f D) c k 0) ∧ CL wx g' (c + 1) (c + 1) n (phiN n) vl (plZ n (rtI n L f D) c) [gn] ∧ Below w.heap.size w wx) (fun _ s18 _ => c + 1 - (intOf s18).toNat)
      case atStart => exact ⟨0, _, _, Nat.zero_le _, rfl, rfl, R0.out, C0.out, B0.out⟩
      case round =>
        clear R0 C0 B0
        obtain ⟨k, gn, cn, hk, rfl, rfl, hr, hcl, hB⟩ := hrel
        have R := Lib.hid hr; clear hr
        have C := Lib.hid hcl; clear hcl
        have BB := Lib.hid hB; clear hB
        obtain ⟨hl, hl'⟩ := R.out.lt
        have hbs := BB.out.size
        by_cases hlk : k < c + 1
        · have hk2 : (k : Int) < (c : Int) + 1 := by omega
          have hpi : (0 : Int) < (phiN n : Int) := by omega
          have hpn : 0 < phiN n := by omega
          have d0 := C.out.c0 hlk
          have d1 := C.out.c1 hlk
          obtain ⟨l8, h8, hd8, q8⟩ := C.out.2.2.2 k hlk
          have hpb := HPW.out k hlk 0 hp0
          obtain ⟨g8, o8, c8, hv8, hl8, hg8, _, _, hc8, _⟩ := q8.at (by omega)
          rw [hv8] at d1
          have f0 := hc8 0 (by omega)
          rw [Nat.add_zero] at f0
          clear hv8 hc8 q8
          go_wp2_with (first
            | (at_builtin; refine wpList_push rfl (.tmp 108) (.tmp 116) rfl rfl wb.heap.size gn cn k (fun k => plZ n (rtI n L f D) c k 0) rfl (R.out.alloc _) wr.heap.size (plZ n (rtI n L f D) c k 0) rfl (heap_alloc_new wr _) (by omega) ?_; intro gB kB wB rowB grB orB ltB
               have C2 := Lib.hid ((C.out.alloc (.cells #[.int .i64 (plZ n (rtI n L f D) c k 0)] 2)).grown (Frame.ofGrown grB) (by omega) orB)
               have B2 := Lib.hid ((BB.out.alloc hbs (.cells #[.int .i64 (plZ n (rtI n L f D) c k 0)] 2)).trans ((Frame.ofGrown grB).below (by omega) (by simp only [World.size_alloc]; omega)))
               have R2 := Lib.hid rowB
               clear rowB grB C R BB d0 d1 f0))
          go_roundw
          case rel => exact ⟨k + 1, gB, kB, by omega, rfl, by go_num, R2.out.congr (fun j hj => by
            by_cases e : j < k
            · rw [if_pos e]
            · rw [if_neg e, show j = k by omega]), C2.out, B2.out⟩
          case measure => simp [intOf] <;> omega
        · obtain rfl : k = c + 1 := by omega
          go_wp2_with fail
          go_ret2
          have hc := HC.out
          subst hc
          exact ⟨.inl ⟨HOK.out, _, _, rfl, (Sl.ofRowF R.out (fun j hj => by have := HPW.out j hj 0 hp0; unfold inR; omega) (by unfold maxLen; omega)).wide (by omega) (Nat.le_refl _) (Nat.le_refl _)⟩, BB.out⟩
end
end

section
open Go.RowKit Go.ChangeShapes Go.Sort
set_option linter.unusedVariables false
set_option linter.unusedSimpArgs false

theorem prod_imA (n L : Nat) (f : Nat → Int) (k : Nat) (G : Nat → Int) : prodZ n (phiN n) G (imA n L f k) = prodZ n (phiN n) G (im n L f k) :=
  pz_congr (fun _ _ => rfl) (fun j hj => by unfold imA cut; rw [if_pos hj])
theorem nxt_imA (n L : Nat) (f : Nat → Int) (k m : Nat) (G : Nat → Nat → Int) : nxt n G (imA n L f k) m = nxt n G (im n L f k) m := by
  funext j
  unfold nxt
  rw [prod_imA]
theorem plZ_imA (n L : Nat) (f : Nat → Int) (ix : Nat → Nat) : ∀ i, plZ n (fun k => imA n L f (ix k)) i = plZ n (fun k => im n L f (ix k)) i
  | 0 => rfl
  | i + 1 => by
    show nxt n (plZ n (fun k => imA n L f (ix k)) i) (imA n L f (ix i)) (i + 1) = nxt n (plZ n (fun k => im n L f (ix k)) i) (im n L f (ix i)) (i + 1)
    rw [plZ_imA n L f ix i, nxt_imA]
theorem plOk_imA (n L : Nat) (f : Nat → Int) (ix : Nat → Nat) (t : Nat) : plOk n (fun k => imA n L f (ix k)) t ↔ plOk n (fun k => im n L f (ix k)) t := by
  unfold plOk stOk nxOk
  simp only [plZ_imA, prod_imA]
theorem polynomialWithRoots_ok (n : Nat) (h1 : 1 ≤ n) (h2 : n ≤ 16) (w : World) {base g cap t L : Nat} {f : Nat → Int} (ix : Nat → Nat) (ht : t ≤ 12) (hf : Within f L 1000000000) (hL : L ≤ 12) (hk : plOk n (fun k => im n L f (ix k)) t) (hR : RowE w base 101 12 g cap t (fun k => arrL (imA n L f (ix k)))) :
    Calls Try.prog 126 #[.int .i64 (n : Int), .slice (some ⟨g, 0, none⟩) t cap] w fun e w' => ∃ a' k', e = .returned (.tuple #[.slice a' (t + 1) k', .int .i64 0]) ∧ Sl true w' w.heap.size w'.heap.size (.slice a' (t + 1) k') (t + 1) (fun k => plZ n (fun k => im n L f (ix k)) t k 0) ∧ Below w.heap.size w w' := by
  refine (polynomialWithRoots_any n h1 h2 w (A := fun k => imA n L f (ix k)) ht hR (fun k _ => imA_big (by omega) h1 hf hL _) (fun k _ j h3 _ => imA_far _ j h3)).mono ?_
  rintro e w' ⟨⟨_, a, k, rfl, s⟩ | ⟨hno, rfl⟩, b⟩
  · rw [plZ_imA] at s
    exact ⟨a, k, rfl, s, b⟩
  · exact absurd ((plOk_imA n L f ix t).2 hk) hno
theorem polynomialWithRoots_big (n : Nat) (h1 : 1 ≤ n) (h2 : n ≤ 16) (w : World) {base g cap t L : Nat} {f : Nat → Int} (ix : Nat → Nat) (ht : t ≤ 12) (hf : Within f L 1000000000) (hL : L ≤ 12) (hk : ¬ plOk n (fun k => im n L f (ix k)) t) (hR : RowE w base 101 12 g cap t (fun k => arrL (imA n L f (ix k)))) :
    Calls Try.prog 126 #[.int .i64 (n : Int), .slice (some ⟨g, 0, none⟩) t cap] w fun e w' => e = .returned (.tuple #[.slice none 0 0, .int .i64 3]) ∧ Below w.heap.size w w' := by
  refine (polynomialWithRoots_any n h1 h2 w (A := fun k => imA n L f (ix k)) ht hR (fun k _ => imA_big (by omega) h1 hf hL _) (fun k _ j h3 _ => imA_far _ j h3)).mono ?_
  rintro e w' ⟨⟨hok, a, k, rfl, s⟩ | ⟨_, rfl⟩, b⟩
  · exact absurd ((plOk_imA n L f ix t).1 hok) hk
  · exact ⟨rfl, b⟩
end

section
open Go.RowKit Go.ChangeShapes Go.Sort
set_option linter.unusedVariables false
set_option linter.unusedSimpArgs false

section
variable {o : Bool} {lo hi L : Nat} {v : Value} {f : Nat → Int}
theorem CharacteristicOf_impl_bad (x : Int) (w : World) (hs : Sl o w lo hi v L f) (h : ¬ CyP x L f) :
    Calls Try.prog 14 #[.agg #[.int .i64 x, v]] w fun e w' => ∃ a' k', e = .returned (.tuple #[.slice a' 0 k', .int .i64 1]) ∧ Sl true w' w.heap.size w'.heap.size (.slice a' 0 k') 0 (fun _ => 0) ∧ Below w.heap.size w w' := by
  obtain ⟨av, cap, rfl⟩ := hs.shape
  have st0 := ((((St.start w).addSl ⟨o, lo, hi, .slice av L cap, L, f⟩ hs).alloc (.cells #[.int .i64 x, .slice av L cap] 28)).addBox w.heap.size [.int .i64 x, .slice av L cap] (Box.made _ _ _ _ (fun j v h => by simpa using h)))
  have q0 := st0.sl 0 ⟨o, lo, hi, .slice av L cap, L, f⟩ rfl
  dsimp only at q0
  have HC := Lib.hid h
  clear h hs
  go_enter Try.func14, Try.ntmps14
  go_wp2_with fail
  refine (IsCyclo_no _ _ q0 HC.out).mono ?_
  rintro e w1 ⟨rfl, b1⟩
  clear q0
  have st1 := st0.keep b1
  have hz_w1 := b1.size
  try simp only [World.size_alloc] at hz_w1
  clear st0 b1
  have BB := st1.1
  go_wp2
  go_ret2
  exact ⟨none, 0, rfl, Sl.nil _ _ _ (Nat.le_refl _) _, BB⟩

theorem CharacteristicOf_spec_bad (x : Int) (w : World) (hs : Sl o w lo hi v L f) (h : ¬ CyP x L f) :
    Calls Try.prog 12 #[.agg #[.int .i64 x, v]] w fun e w' => ∃ a' k', e = .returned (.tuple #[.slice a' 0 k', .int .i64 1]) ∧ Sl true w' w.heap.size w'.heap.size (.slice a' 0 k') 0 (fun _ => 0) ∧ Below w.heap.size w w' := by
  obtain ⟨av, cap, rfl⟩ := hs.shape
  have st0 := ((((St.start w).addSl ⟨o, lo, hi, .slice av L cap, L, f⟩ hs).alloc (.cells #[.int .i64 x, .slice av L cap] 28)).addBox w.heap.size [.int .i64 x, .slice av L cap] (Box.made _ _ _ _ (fun j v h => by simpa using h)))
  have q0 := st0.sl 0 ⟨o, lo, hi, .slice av L cap, L, f⟩ rfl
  dsimp only at q0
  have HC := Lib.hid h
  clear h hs
  go_enter Try.func12, Try.ntmps12
  go_wp2_with fail
  refine (l01Is_no _ _ q0 HC.out).mono ?_
  rintro e w1 ⟨rfl, b1⟩
  clear q0
  have st1 := st0.keep b1
  have hz_w1 := b1.size
  try simp only [World.size_alloc] at hz_w1
  clear st0 b1
  have BB := st1.1
  go_wp2
  go_ret2
  exact ⟨none, 0, rfl, Sl.nil _ _ _ (Nat.le_refl _) _, BB⟩

set_option maxRecDepth 100000 in
set_option maxHeartbeats 4000000 in
theorem CharacteristicOf_impl_ok (n : Nat) (w : World) (hs : Sl o w lo hi v L f) (h : CyP n L f) (hk : plOk n (rtI n L f false) (cntI n L f false (phiN n))) :
    Calls Try.prog 14 #[.agg #[.int .i64 (n : Int), v]] w fun e w' => ∃ a' k', e = .returned (.tuple #[.slice a' ((cntI n L f false (phiN n)) + 1) k', .int .i64 0]) ∧ Sl true w' w.heap.size w'.heap.size (.slice a' ((cntI n L f false (phiN n)) + 1) k') ((cntI n L f false (phiN n)) + 1) (fun k => plZ n (rtI n L f false) (cntI n L f false (phiN n)) k 0) ∧ Below w.heap.size w w' := by
  obtain ⟨av, cap, rfl⟩ := hs.shape
  have hn1 : 1 ≤ n := by have := h.1; omega
  have hn2 : n ≤ 16 := by have := h.2.1; omega
  have hp := phi_le12 n hn2 hn1
  have hL : L ≤ 12 := by have e : L = phiN n := h.2.2.1; omega
  have hhs := hs.size
  have HF := Lib.hid h.2.2.2
  have HK := Lib.hid hk
  clear hk
  have st0 := ((((St.start w).addSl ⟨o, lo, hi, .slice av L cap, L, f⟩ hs).alloc (.cells #[.int .i64 (n : Int), .slice av L cap] 28)).addBox w.heap.size [.int .i64 (n : Int), .slice av L cap] (Box.made _ _ _ _ (fun j v h => by simpa using h)))
  have q0 := st0.sl 0 ⟨o, lo, hi, .slice av L cap, L, f⟩ rfl
  dsimp only at q0
  have HC := Lib.hid h
  clear h hs
  go_enter Try.func14, Try.ntmps14
  go_wp2_with fail
  refine (IsCyclo_yes _ _ q0 HC.out).mono ?_
  rintro e w1 ⟨rfl, b1⟩
  clear q0
  have st1 := st0.keep b1
  have hz_w1 := b1.size
  try simp only [World.size_alloc] at hz_w1
  clear st0 b1
  obtain ⟨c0, c1⟩ := (st1.box 0 (w.heap.size, [.int .i64 (n : Int), .slice av L cap]) rfl).cell2
  have q0 := st1.sl 0 ⟨o, lo, hi, .slice av L cap, L, f⟩ rfl
  dsimp only at q0
  have hl1 : w.heap.size < w1.heap.size := by omega
  have hdl : (cntI n L f false (phiN n)) ≤ 12 := by have := cntI_le n L f false (phiN n); omega
  go_wp2_with fail
  go_region_law (first
      | (go_simp; go_at_call 127; refine (imagesOf_any n hn1 hn2 _ q0.drew (by omega)).mono ?_; rintro e w6 ⟨g6, c6, rfl, r6, b6⟩
         have hz6 := b6.size
         have st6 := st1.drew.keep b6
         obtain ⟨x6, x6'⟩ := (st6.box 0 (w.heap.size, [.int .i64 (n : Int), .slice av L cap]) rfl).cell2
         have hl6 : w.heap.size < w6.heap.size := by simp only [World.size_drew, World.size_alloc] at hz6; omega)
      | (go_simp; go_at_call 126; refine (polynomialWithRoots_ok n hn1 hn2 _ (t := (cntI n L f false (phiN n))) (L := L) (f := f) (fun k => k) hdl HF.out hL HK.out r6).mono ?_; rintro e w7 ⟨a7, k7, rfl, s7, b7⟩
         have hz7 := b7.size
         have st7 := st6.keep b7))
  all_goals
    go_wp2_with fail
    go_ret2
    exact ⟨_, _, rfl, s7.wide (by omega) (Nat.le_refl _) (Nat.le_refl _), st7.1⟩

set_option maxRecDepth 100000 in
set_option maxHeartbeats 4000000 in
theorem CharacteristicOf_spec_ok (n : Nat) (w : World) (hs : Sl o w lo hi v L f) (h : CyP n L f) (hk : plOk n (rtI n L f false) (cntI n L f false (phiN n))) :
    Calls Try.prog 12 #[.agg #[.int .i64 (n : Int), v]] w fun e w' => ∃ a' k', e = .returned (.tuple #[.slice a' ((cntI n L f false (phiN n)) + 1) k', .int .i64 0]) ∧ Sl true w' w.heap.size w'.heap.size (.slice a' ((cntI n L f false (phiN n)) + 1) k') ((cntI n L f false (phiN n)) + 1) (fun k => plZ n (rtI n L f false) (cntI n L f false (phiN n)) k 0) ∧ Below w.heap.size w w' := by
  obtain ⟨av, cap, rfl⟩ := hs.shape
  have hn1 : 1 ≤ n := by have := h.1; omega
  have hn2 : n ≤ 16 := by have := h.2.1; omega
  have hp := phi_le12 n hn2 hn1
  have hL : L ≤ 12 := by have e : L = phiN n := h.2.2.1; omega
  have hhs := hs.size
  have HF := Lib.hid h.2.2.2
  have HK := Lib.hid hk
  clear hk
  have st0 := ((((St.start w).addSl ⟨o, lo, hi, .slice av L cap, L, f⟩ hs).alloc (.cells #[.int .i64 (n : Int), .slice av L cap] 28)).addBox w.heap.size [.int .i64 (n : Int), .slice av L cap] (Box.made _ _ _ _ (fun j v h => by simpa using h)))
  have q0 := st0.sl 0 ⟨o, lo, hi, .slice av L cap, L, f⟩ rfl
  dsimp only at q0
  have HC := Lib.hid h
  clear h hs
  go_enter Try.func12, Try.ntmps12
  go_wp2_with fail
  refine (l01Is_yes _ _ q0 HC.out).mono ?_
  rintro e w1 ⟨rfl, b1⟩
  clear q0
  have st1 := st0.keep b1
  have hz_w1 := b1.size
  try simp only [World.size_alloc] at hz_w1
  clear st0 b1
  obtain ⟨c0, c1⟩ := (st1.box 0 (w.heap.size, [.int .i64 (n : Int), .slice av L cap]) rfl).cell2
  have q0 := st1.sl 0 ⟨o, lo, hi, .slice av L cap, L, f⟩ rfl
  dsimp only at q0
  go_wp2_with fail
  refine (l02Polynomial_any n false _ q0 HC.out).mono ?_
  rintro e w7 ⟨⟨hok, a7, k7, rfl, s7⟩ | ⟨hno, rfl⟩, b7⟩
  · have hz7 := b7.size
    have HS7 := Lib.hid s7
    have BB := (st1.keep b7).1
    clear st1 b7 q0 c0 c1 s7 hok
    go_wp2_with fail
    go_ret2
    exact ⟨_, _, rfl, HS7.out.wide (by omega) (Nat.le_refl _) (Nat.le_refl _), BB⟩
  · exact absurd HK.out hno

set_option maxRecDepth 100000 in
set_option maxHeartbeats 4000000 in
theorem CharacteristicOf_impl_big (n : Nat) (w : World) (hs : Sl o w lo hi v L f) (h : CyP n L f) (hk : ¬ plOk n (rtI n L f false) (cntI n L f false (phiN n))) :
    Calls Try.prog 14 #[.agg #[.int .i64 (n : Int), v]] w fun e w' => ∃ a' k', e = .returned (.tuple #[.slice a' 0 k', .int .i64 3]) ∧ Sl true w' w.heap.size w'.heap.size (.slice a' 0 k') 0 (fun _ => 0) ∧ Below w.heap.size w w' := by
  obtain ⟨av, cap, rfl⟩ := hs.shape
  have hn1 : 1 ≤ n := by have := h.1; omega
  have hn2 : n ≤ 16 := by have := h.2.1; omega
  have hp := phi_le12 n hn2 hn1
  have hL : L ≤ 12 := by have e : L = phiN n := h.2.2.1; omega
  have hhs := hs.size
  have HF := Lib.hid h.2.2.2
  have HK := Lib.hid hk
  clear hk
  have st0 := ((((St.start w).addSl ⟨o, lo, hi, .slice av L cap, L, f⟩ hs).alloc (.cells #[.int .i64 (n : Int), .slice av L cap] 28)).addBox w.heap.size [.int .i64 (n : Int), .slice av L cap] (Box.made _ _ _ _ (fun j v h => by simpa using h)))
  have q0 := st0.sl 0 ⟨o, lo, hi, .slice av L cap, L, f⟩ rfl
  dsimp only at q0
  have HC := Lib.hid h
  clear h hs
  go_enter Try.func14, Try.ntmps14
  go_wp2_with fail
  refine (IsCyclo_yes _ _ q0 HC.out).mono ?_
  rintro e w1 ⟨rfl, b1⟩
  clear q0
  have st1 := st0.keep b1
  have hz_w1 := b1.size
  try simp only [World.size_alloc] at hz_w1
  clear st0 b1
  obtain ⟨c0, c1⟩ := (st1.box 0 (w.heap.size, [.int .i64 (n : Int), .slice av L cap]) rfl).cell2
  have q0 := st1.sl 0 ⟨o, lo, hi, .slice av L cap, L, f⟩ rfl
  dsimp only at q0
  have hl1 : w.heap.size < w1.heap.size := by omega
  have hdl : (cntI n L f false (phiN n)) ≤ 12 := by have := cntI_le n L f false (phiN n); omega
  go_wp2_with fail
  go_region_law (first
      | (go_simp; go_at_call 127; refine (imagesOf_any n hn1 hn2 _ q0.drew (by omega)).mono ?_; rintro e w6 ⟨g6, c6, rfl, r6, b6⟩
         have hz6 := b6.size
         have st6 := st1.drew.keep b6
         obtain ⟨x6, x6'⟩ := (st6.box 0 (w.heap.size, [.int .i64 (n : Int), .slice av L cap]) rfl).cell2
         have hl6 : w.heap.size < w6.heap.size := by simp only [World.size_drew, World.size_alloc] at hz6; omega)
      | (go_simp; go_at_call 126; refine (polynomialWithRoots_big n hn1 hn2 _ (t := (cntI n L f false (phiN n))) (L := L) (f := f) (fun k => k) hdl HF.out hL HK.out r6).mono ?_; rintro e w7 ⟨rfl, b7⟩
         have hz7 := b7.size
         have st7 := st6.keep b7))
  all_goals
    go_wp2_with fail
    go_ret2
    exact ⟨none, 0, rfl, Sl.nil _ _ _ (Nat.le_refl _) _, st7.1⟩

set_option maxRecDepth 100000 in
set_option maxHeartbeats 4000000 in
theorem CharacteristicOf_spec_big (n : Nat) (w : World) (hs : Sl o w lo hi v L f) (h : CyP n L f) (hk : ¬ plOk n (rtI n L f false) (cntI n L f false (phiN n))) :
    Calls Try.prog 12 #[.agg #[.int .i64 (n : Int), v]] w fun e w' => ∃ a' k', e = .returned (.tuple #[.slice a' 0 k', .int .i64 3]) ∧ Sl true w' w.heap.size w'.heap.size (.slice a' 0 k') 0 (fun _ => 0) ∧ Below w.heap.size w w' := by
  obtain ⟨av, cap, rfl⟩ := hs.shape
  have hn1 : 1 ≤ n := by have := h.1; omega
  have hn2 : n ≤ 16 := by have := h.2.1; omega
  have hp := phi_le12 n hn2 hn1
  have hL : L ≤ 12 := by have e : L = phiN n := h.2.2.1; omega
  have hhs := hs.size
  have HF := Lib.hid h.2.2.2
  have HK := Lib.hid hk
  clear hk
  have st0 := ((((St.start w).addSl ⟨o, lo, hi, .slice av L cap, L, f⟩ hs).alloc (.cells #[.int .i64 (n : Int), .slice av L cap] 28)).addBox w.heap.size [.int .i64 (n : Int), .slice av L cap] (Box.made _ _ _ _ (fun j v h => by simpa using h)))
  have q0 := st0.sl 0 ⟨o, lo, hi, .slice av L cap, L, f⟩ rfl
  dsimp only at q0
  have HC := Lib.hid h
  clear h hs
  go_enter Try.func12, Try.ntmps12
  go_wp2_with fail
  refine (l01Is_yes _ _ q0 HC.out).mono ?_
  rintro e w1 ⟨rfl, b1⟩
  clear q0
  have st1 := st0.keep b1
  have hz_w1 := b1.size
  try simp only [World.size_alloc] at hz_w1
  clear st0 b1
  obtain ⟨c0, c1⟩ := (st1.box 0 (w.heap.size, [.int .i64 (n : Int), .slice av L cap]) rfl).cell2
  have q0 := st1.sl 0 ⟨o, lo, hi, .slice av L cap, L, f⟩ rfl
  dsimp only at q0
  go_wp2_with fail
  refine (l02Polynomial_any n false _ q0 HC.out).mono ?_
  rintro e w7 ⟨⟨hok, a7, k7, rfl, s7⟩ | ⟨hno, rfl⟩, b7⟩
  · exact absurd hok HK.out
  · have BB := (st1.keep b7).1
    clear st1 b7 q0 c0 c1 hno
    go_wp2_with fail
    go_ret2
    exact ⟨none, 0, rfl, Sl.nil _ _ _ (Nat.le_refl _) _, BB⟩

end
end
end Go.Proofs.Ytdalahgfpbdilaa
