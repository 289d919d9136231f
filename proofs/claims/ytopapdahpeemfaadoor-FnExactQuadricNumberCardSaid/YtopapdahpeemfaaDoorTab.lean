/- Rows that share one table, rows in blocks of their own, in memory; newRows of the program; append to a list of rows. -/
import Derived.Test.YtopapdahpeemfaaDoorRow
import Derived.Test.YtopapdahpeemfaaDoorCopy
import Derived.BigRegion
namespace Go.Proofs.YtopapdahpeemfaaDoor
set_option linter.unusedVariables false
set_option linter.unusedSimpArgs false

section
open Go.RowKit Go.ChangeShapes Go.Sort
set_option linter.unusedVariables false
set_option linter.unusedSimpArgs false

/-- The heads of p rows of n numbers over the table in block T. -/
def heads (T n p : Nat) : List Value := (List.range p).map (fun i => .slice (some ⟨T, i * n, none⟩) n n)
theorem heads_get {T n p i : Nat} (h : i < p) : (heads T n p)[i]? = some (.slice (some ⟨T, i * n, none⟩) n n) := by
  unfold heads
  rw [List.getElem?_map, List.getElem?_range h]; rfl
theorem row_lt {i p n j : Nat} (hi : i < p) (hj : j < n) : i * n + j < p * n := by
  have h : (i + 1) * n ≤ p * n := Nat.mul_le_mul_right _ hi
  rw [Nat.add_mul, Nat.one_mul] at h
  omega
theorem row_div {i n j : Nat} (hj : j < n) : (i * n + j) / n = i ∧ (i * n + j) % n = j := by
  rw [Nat.add_comm, Nat.add_mul_div_right _ _ (by omega), Nat.add_mul_mod_self_right, Nat.div_eq_of_lt hj, Nat.mod_eq_of_lt hj]
  omega
/-- The table in block T, its rows' heads in block R. -/
def Tab (w : World) (T R p n : Nat) (F : Nat → Nat → Int) : Prop :=
  T ≠ R ∧ Sl true w T (T + 1) (.slice (some ⟨T, 0, none⟩) (p * n) (p * n)) (p * n) (fun q => F (q / n) (q % n)) ∧ Box w R (heads T n p)
section
variable {w w' : World} {T R p n : Nat} {F G : Nat → Nat → Int}
theorem Tab.size (h : Tab w T R p n F) : T < w.heap.size ∧ R < w.heap.size := ⟨h.2.1.size, h.2.2.1⟩
theorem Tab.keep (h : Tab w T R p n F) (hb : Below w.heap.size w w') : Tab w' T R p n F := ⟨h.1, h.2.1.keep hb h.2.1.size, h.2.2.keep hb⟩
theorem Tab.keepF {lo hi : Nat} (h : Tab w T R p n F) (hf : Frame lo hi w w') (hT : T < lo ∨ hi ≤ T) (hR : R < lo ∨ hi ≤ R) : Tab w' T R p n F := ⟨h.1, h.2.1.keepF hf (by omega), h.2.2.keepF hf hR⟩
theorem Tab.congr (h : Tab w T R p n F) (hn : 1 ≤ n) (e : ∀ i j, i < p → j < n → G i j = F i j) : Tab w T R p n G := by
  refine ⟨h.1, h.2.1.congr (fun q hq => ?_), h.2.2⟩
  exact e _ _ ((Nat.div_lt_iff_lt_mul (by omega)).2 hq) (Nat.mod_lt _ (by omega))
theorem Tab.head (h : Tab w T R p n F) {i : Nat} (hi : i < p) : w.cell? ⟨R, i, none⟩ = some (.slice (some ⟨T, i * n, none⟩) n n) := h.2.2.2.1 i _ (heads_get hi)
theorem Tab.bd (h : Tab w T R p n F) (hn : 1 ≤ n) {i j : Nat} (hi : i < p) (hj : j < n) : inR (F i j) := by
  have := h.2.1.bd _ (row_lt hi hj)
  rwa [(row_div hj).1, (row_div hj).2] at this
/-- One row. -/
theorem Tab.row (h : Tab w T R p n F) (hn : 1 ≤ n) {i : Nat} (hi : i < p) : Sl true w T (T + 1) (.slice (some ⟨T, i * n, none⟩) n n) n (F i) := by
  have hpn := row_lt hi (show 0 < n by omega)
  obtain ⟨k1, k2, k3, k4, k5⟩ := h.2.1.known (by omega)
  have hl := h.2.1.len
  have hnl : n ≤ p * n := Nat.le_mul_of_pos_left n (by omega)
  refine ⟨h.2.1.size, by omega, fun j hj => h.bd hn hi hj, .inr ⟨T, i * n, n, rfl, Nat.le_refl _, by omega, Nat.le_refl _, by omega, fun j hj => ?_, k5⟩⟩
  have := k4 _ (row_lt hi hj)
  rw [(row_div hj).1, (row_div hj).2, Nat.zero_add] at this
  exact this
/-- One row has turned. -/
theorem Tab.put (h : Tab w T R p n F) (hn : 1 ≤ n) {i : Nat} (hi : i < p) {f : Nat → Int} (hf : Frame T (T + 1) w w') (hs : Sl true w' T (T + 1) (.slice (some ⟨T, i * n, none⟩) n n) n f) (ho : ∀ q, q < p * n → (q < i * n ∨ i * n + n ≤ q) → w'.cell? ⟨T, q, none⟩ = w.cell? ⟨T, q, none⟩) : Tab w' T R p n (fun y => if y = i then f else F y) := by
  have hR := h.2.2.keepF hf (by have := h.1; omega)
  have hpn := row_lt hi (show 0 < n by omega)
  obtain ⟨k1, k2, k3, k4, k5⟩ := h.2.1.known (by omega)
  obtain ⟨m1, m2, m3, m4, m5⟩ := hs.known (by omega)
  have hl := h.2.1.len
  refine ⟨h.1, ⟨hs.size, hl, fun q hq => ?_, .inr ⟨T, 0, p * n, rfl, Nat.le_refl _, by omega, Nat.le_refl _, by omega, fun q hq => ?_, m5⟩⟩, hR⟩
  · dsimp only
    have hd : q / n < p := (Nat.div_lt_iff_lt_mul (by omega)).2 hq
    have hm : q % n < n := Nat.mod_lt _ (by omega)
    by_cases e : q / n = i
    · rw [if_pos e]; exact hs.bd _ hm
    · rw [if_neg e]; exact h.bd hn hd hm
  · dsimp only
    have hm : q % n < n := Nat.mod_lt _ (by omega)
    have hq2 : q = q / n * n + q % n := by rw [Nat.mul_comm]; exact (Nat.div_add_mod q n).symm
    by_cases e : q / n = i
    · rw [if_pos e, Nat.zero_add]
      have := m4 _ hm
      rw [← e, ← hq2] at this
      exact this
    · rw [if_neg e, Nat.zero_add]
      have hout : q < i * n ∨ i * n + n ≤ q := by
        rcases Nat.lt_or_gt_of_ne e with h1 | h1
        · left
          have : (q / n + 1) * n ≤ i * n := Nat.mul_le_mul_right _ h1
          rw [Nat.add_mul, Nat.one_mul] at this
          omega
        · right
          have : (i + 1) * n ≤ q / n * n := Nat.mul_le_mul_right _ h1
          rw [Nat.add_mul, Nat.one_mul] at this
          omega
      rw [ho q hq hout]
      have := k4 q hq
      rwa [Nat.zero_add] at this
/-- One number has turned. -/
theorem Tab.store (h : Tab w T R p n F) (hn : 1 ≤ n) {i j : Nat} (hi : i < p) (hj : j < n) {x : Int} (hx : inR x) : Tab (w.setCell ⟨T, i * n + j, none⟩ (.int .i64 x)) T R p n (fun y t => if y = i ∧ t = j then x else F y t) := by
  have hs := (h.row hn hi).store hj hx
  have := h.put hn hi (w' := w.setCell ⟨T, i * n + j, none⟩ (.int .i64 x)) ((Frame.refl T (T + 1) w).setCell (p := ⟨T, i * n + j, none⟩) (Nat.le_refl T) (Nat.lt_succ_self T) _) hs (fun q hq ho => setCell_ne _ _ _ _ _ (by omega))
  exact this.congr hn (fun y t hy ht => by
    by_cases e : y = i
    · subst e
      simp
    · simp [e])
theorem Tab.frozen (h : Tab w T R p n F) (hp : 0 < p * n) : ∀ k, w.frozen? ⟨T, k, none⟩ = false := (h.2.1.known hp).2.2.2.2 rfl
end
end

section
open Go.RowKit Go.ChangeShapes Go.Sort
set_option linter.unusedVariables false
set_option linter.unusedSimpArgs false

theorem Tryd.info_rows22 : (Tryd.prog.info? 22).map (fun i => (i.zero, i.size, i.bytes)) = some (some (.slice none 0 0), 1, 24) := by kernel_rfl
/-- A block of heads under way. -/
theorem Box.setMap {w : World} {b p i : Nat} {G : Nat → Value} {u : Value} (h : Box w b ((List.range p).map G)) (hi : i < p) : Box (w.setCell ⟨b, i, none⟩ u) b ((List.range p).map (fun x => if x = i then u else G x)) := by
  obtain ⟨h1, h2, h3⟩ := h
  have hg : ∀ (G : Nat → Value) j, j < p → ((List.range p).map G)[j]? = some (G j) := fun G j hj => by rw [List.getElem?_map, List.getElem?_range hj]; rfl
  refine ⟨by simpa using h1, fun j v hj => ?_, fun k => by simpa using h3 k⟩
  rcases Nat.lt_or_ge j p with hl | hl
  · rw [hg _ j hl] at hj
    cases hj
    by_cases e : j = i
    · subst e
      rw [if_pos rfl]
      exact World.cell?_setCell_same _ _ _ (h2 j _ (hg G j hl))
    · rw [if_neg e, setCell_ne _ _ _ _ _ e]
      exact h2 j _ (hg G j hl)
  · rw [List.getElem?_eq_none (by simpa using hl)] at hj
    cases hj
theorem Box.atMap {w : World} {b p i : Nat} {G : Nat → Value} (h : Box w b ((List.range p).map G)) (hi : i < p) : w.cell? ⟨b, i, none⟩ = some (G i) := h.2.1 i _ (by rw [List.getElem?_map, List.getElem?_range hi]; rfl)

end

section
open Go.RowKit Go.ChangeShapes Go.Sort
set_option linter.unusedVariables false
set_option linter.unusedSimpArgs false

theorem Tryd.info22 : (Tryd.prog.info? 22).map (fun i => (i.zero, i.size, i.bytes)) = some (some (.slice none 0 0), 1, 24) := by kernel_rfl
/-- The head of a row of n numbers that fills block b. -/
abbrev hd (b n : Nat) : Value := .slice (some ⟨b, 0, none⟩) n n
/-- m rows of n numbers, row i in block b i; their heads in block g; all these blocks lie from base on below top. -/
def Mat (w : World) (base top g cap m n : Nat) (b : Nat → Nat) (F : Nat → Nat → Int) : Prop :=
  top ≤ w.heap.size ∧ base ≤ g ∧ g < top ∧ RowE w base 22 1 g cap m (fun i => [hd (b i) n]) ∧
  (∀ i, i < m → base ≤ b i ∧ b i < top ∧ b i ≠ g ∧ Sl true w (b i) (b i + 1) (hd (b i) n) n (F i)) ∧ ∀ i j, i < m → j < m → i ≠ j → b i ≠ b j
section
variable {w w' : World} {base top g cap m n : Nat} {b : Nat → Nat} {F G : Nat → Nat → Int}
theorem Mat.keepF {lo hi : Nat} (h : Mat w base top g cap m n b F) (hf : Frame lo hi w w') (hd : hi ≤ base ∨ top ≤ lo) : Mat w' base top g cap m n b F := by
  obtain ⟨h1, h2, h3, h4, h5, h6⟩ := h
  refine ⟨Nat.le_trans h1 hf.size, h2, h3, h4.keepF hf (by omega), fun i hi => ?_, h6⟩
  obtain ⟨k1, k2, k3, k4⟩ := h5 i hi
  exact ⟨k1, k2, k3, k4.keepF hf (by omega)⟩
theorem Mat.keep (h : Mat w base top g cap m n b F) (hb : Below w.heap.size w w') : Mat w' base top g cap m n b F :=
  h.keepF (Frame.of_below (lo := top) (hi := 0) hb (Nat.le_refl _)) (.inl (Nat.zero_le _))
theorem Mat.congr (h : Mat w base top g cap m n b F) (e : ∀ i j, i < m → j < n → G i j = F i j) : Mat w base top g cap m n b G := by
  obtain ⟨h1, h2, h3, h4, h5, h6⟩ := h
  refine ⟨h1, h2, h3, h4, fun i hi => ?_, h6⟩
  obtain ⟨k1, k2, k3, k4⟩ := h5 i hi
  exact ⟨k1, k2, k3, k4.congr (fun j hj => e i j hi hj)⟩
theorem Mat.head (h : Mat w base top g cap m n b F) {i : Nat} (hi : i < m) : w.cell? ⟨g, i, none⟩ = some (hd (b i) n) := by
  have := h.2.2.2.1.cell (fun _ => rfl) hi (j := 0) (by omega)
  simpa using this
theorem Mat.row (h : Mat w base top g cap m n b F) {i : Nat} (hi : i < m) : Sl true w (b i) (b i + 1) (hd (b i) n) n (F i) := (h.2.2.2.2.1 i hi).2.2.2
theorem Mat.blk (h : Mat w base top g cap m n b F) {i : Nat} (hi : i < m) : base ≤ b i ∧ b i < top := ⟨(h.2.2.2.2.1 i hi).1, (h.2.2.2.2.1 i hi).2.1⟩
theorem Mat.start (w : World) (m n : Nat) (b : Nat → Nat) (F : Nat → Nat → Int) : Mat (w.alloc (.cells #[] 22)) w.heap.size (w.heap.size + 1) w.heap.size 0 0 n b F :=
  ⟨by simp, Nat.le_refl _, Nat.lt_succ_self _, RowE.made w w.heap.size 22 1 _ (Nat.le_refl _), fun i hi => absurd hi (Nat.not_lt_zero _), fun i j hi => absurd hi (Nat.not_lt_zero _)⟩
/-- A number is laid in a row. -/
theorem Mat.store (h : Mat w base top g cap m n b F) {i j : Nat} (hi : i < m) (hj : j < n) {x : Int} (hx : inR x) : Mat (w.setCell ⟨b i, j, none⟩ (.int .i64 x)) base top g cap m n b (fun y t => if y = i ∧ t = j then x else F y t) := by
  obtain ⟨h1, h2, h3, h4, h5, h6⟩ := h
  have k := h5 i hi
  refine ⟨by simpa using h1, h2, h3, h4.keepF ((Frame.refl (b i) (b i + 1) w).setCell (Nat.le_refl _) (Nat.lt_succ_self _) _) (by omega), fun y hy => ?_, h6⟩
  obtain ⟨q1, q2, q3, q4⟩ := h5 y hy
  refine ⟨q1, q2, q3, ?_⟩
  by_cases e : y = i
  · subst e
    exact (q4.store0 hj hx).congr (fun t ht => by simp)
  · have := h6 y i hy hi e
    exact (q4.setOther (by show b i < _ ∨ _ ≤ b i; omega) _).congr (fun t ht => by simp [e])
/-- A new row, made ahead in the last block, is put at the end. -/
theorem Mat.push {B g' cap' : Nat} {f : Nat → Int} {ob : Obj} (h : Mat w base top g cap m n b F) (hB : top ≤ B) (hBs : B < w.heap.size) (hs : Sl true w B (B + 1) (hd B n) n f)
    (hr : RowE w' base 22 1 g' cap' (m + 1) (fun i => if i < m then [hd (b i) n] else [hd B n])) (hg : (w.alloc ob).grownBy w' (some g)) (ho : g' = g ∨ g' = (w.alloc ob).heap.size) (hl : g' < w'.heap.size) :
    Mat w' base w'.heap.size g' cap' (m + 1) n (fun i => if i < m then b i else B) (fun i => if i < m then F i else f) := by
  obtain ⟨h1, h2, h3, h4, h5, h6⟩ := h
  have hz := hg.size
  simp only [World.size_alloc] at hz ho
  have hF := Frame.ofGrown hg
  refine ⟨Nat.le_refl _, by omega, hl, ?_, fun i hi => ?_, fun i j hi hj hne => ?_⟩
  · exact hr.congr (fun j hj => by
      by_cases e : j < m
      · simp only [if_pos e]
      · simp only [if_neg e])
  · by_cases e : i < m
    · obtain ⟨q1, q2, q3, q4⟩ := h5 i e
      simp only [if_pos e]
      exact ⟨q1, by omega, by omega, (q4.alloc ob).keepF hF (by omega)⟩
    · simp only [if_neg e]
      exact ⟨by omega, by omega, by omega, (hs.alloc ob).keepF hF (by omega)⟩
  · by_cases e : i < m
    · have q := (h5 i e).2.1
      by_cases e2 : j < m
      · simp only [if_pos e, if_pos e2]; exact h6 i j e e2 hne
      · simp only [if_pos e, if_neg e2]; omega
    · by_cases e2 : j < m
      · have q := (h5 j e2).2.1
        simp only [if_neg e, if_pos e2]; omega
      · omega
end
end
end Go.Proofs.YtopapdahpeemfaaDoor
