/- Rows that share one table, rows in blocks of their own, in memory; newRows of the program; append to a list of rows. Rows of int64 in memory: a slice of slices. Plain facts, no walk. The state of a walk with boxes, slices and rows of its own; copy into a slice. Plain facts, no walk. slices.Repeat of a list of one number c, however often. slices.Index and slices.Contains over rows of whole numbers. The halves of the program's products: joinHalves, halvesOf, productParts. AddCyclos of the model. productWithin of the program: the product of two numbers, those of the second one as great as an image's. Products of the model: l01Product. Rows that grow, and boxes that a region makes. The residues of an order as lists: residuesOf of the program. CyclotomicUnit of the program and of the model. CyclotomicUnit of the model. The form in which a law's walk takes an answer that is a zero value and an error. Bernoulli numbers, irregular numbers and cyclotomic units of both sides. Lists of arrays and lists of numbers that grow by append. The images of a number, all of them: imagesOf of the program. The images of a number, all of them: l02Images of the model. The number 1: oneOf of the program. Products of images: productOfImages of the program. IsUnit of the program alone (without the model's products). Cyclotomic units are units. The source of drawn numbers. Drawn numbers: l01Near, l01DrawOrder, l01DrawPart. Drawn numbers: l01DrawOf. Drawn numbers: l01Draw. The state of a walk that draws: what lies in boxes and slices beside a source of drawn numbers. Plain facts, no walk. Drawn numbers: l01Bad. Drawn primes and orders of chapter 6. Drawn arguments of chapter 10: primes, Bernoulli numbers, units. What the property laws call: big, likeInts, cyclos5, cyclo9; the code's bytes. -/
import Derived.Test.YtnhpodlcgkgpbaaRow
import Derived.Test.YtnhpodlcgkgpbaaCopy
import Derived.BigRegion
import Derived.Deep.Matrix
import Derived.Test.YtnhpodlcgkgpbaaArr
import Derived.Laws.Bits64b
import Derived.Deep.RegionLaw
import Derived.Test.YtnhpodlcgkgpbaaPkA
import Derived.Test.YtnhpodlcgkgpbaaConv
import Derived.Test.YtnhpodlcgkgpbaaImg
import Derived.Test.YtnhpodlcgkgpbaaAdd
import Derived.Test.YtnhpodlcgkgpbaaOwn
import Derived.Deep.DeepCutAuto
import Derived.Deep.AppendLies
import Derived.Laws.OwnMore
import Derived.OwnWalk
import Derived.Test.YtnhpodlcgkgpbaaGalZ
import Derived.Test.YtnhpodlcgkgpbaaRgCu
import Derived.Test.YtnhpodlcgkgpbaaRgF
import Derived.Test.YtnhpodlcgkgpbaaCycloOf
import Derived.Test.YtnhpodlcgkgpbaaFbA
import Derived.Test.YtnhpodlcgkgpbaaFbN
import Derived.Test.YtnhpodlcgkgpbaaNormZ
import Derived.Test.YtnhpodlcgkgpbaaState
import Derived.Deep.RegionHeld3
import Derived.BigQuiet
import Derived.Laws.BitsAllLaws
namespace Go.Proofs.Ytnhpodlcgkgpbaa
set_option linter.unusedVariables false
set_option linter.unusedSimpArgs false
section
set_option linter.unusedVariables false
set_option linter.unusedSimpArgs false

section
open Go.RowKit Go.ChangeShapes Go.Sort
set_option linter.unusedVariables false
set_option linter.unusedSimpArgs false

/-- The heads of p rows of n numbers over the table in block T. -/
def heads (T n p : Nat) : List Value := (List.range p).map (fun i => .slice (some ⟨T, i * n, none⟩) n n)
theorem heads_get {T n p i : Nat} (h : i < p) : (heads T n p)[i]? = some (.slice (some ⟨T, i * n, none⟩) n n) := by
  unfold heads
  rw [List.getElem?_map, List.getElem?_range h]; rfl
theorem row_lt {i p n j : Nat} (hi : i < p) (hj : j < n) : i * n + j < p * n := by
  have h : (i + 1) * n ≤ p * n := Nat.mul_le_mul_right _ hi
  rw [Nat.add_mul, Nat.one_mul] at h
  omega
theorem row_div {i n j : Nat} (hj : j < n) : (i * n + j) / n = i ∧ (i * n + j) % n = j := by
  rw [Nat.add_comm, Nat.add_mul_div_right _ _ (by omega), Nat.add_mul_mod_self_right, Nat.div_eq_of_lt hj, Nat.mod_eq_of_lt hj]
  omega
/-- The table in block T, its rows' heads in block R. -/
def Tab (w : World) (T R p n : Nat) (F : Nat → Nat → Int) : Prop :=
  T ≠ R ∧ Sl true w T (T + 1) (.slice (some ⟨T, 0, none⟩) (p * n) (p * n)) (p * n) (fun q => F (q / n) (q % n)) ∧ Box w R (heads T n p)
section
variable {w w' : World} {T R p n : Nat} {F G : Nat → Nat → Int}
theorem Tab.size (h : Tab w T R p n F) : T < w.heap.size ∧ R < w.heap.size := ⟨h.2.1.size, h.2.2.1⟩
theorem Tab.keep (h : Tab w T R p n F) (hb : Below w.heap.size w w') : Tab w' T R p n F := ⟨h.1, h.2.1.keep hb h.2.1.size, h.2.2.keep hb⟩
theorem Tab.keepF {lo hi : Nat} (h : Tab w T R p n F) (hf : Frame lo hi w w') (hT : T < lo ∨ hi ≤ T) (hR : R < lo ∨ hi ≤ R) : Tab w' T R p n F := ⟨h.1, h.2.1.keepF hf (by omega), h.2.2.keepF hf hR⟩
theorem Tab.congr (h : Tab w T R p n F) (hn : 1 ≤ n) (e : ∀ i j, i < p → j < n → G i j = F i j) : Tab w T R p n G := by
  refine ⟨h.1, h.2.1.congr (fun q hq => ?_), h.2.2⟩
  exact e _ _ ((Nat.div_lt_iff_lt_mul (by omega)).2 hq) (Nat.mod_lt _ (by omega))
theorem Tab.head (h : Tab w T R p n F) {i : Nat} (hi : i < p) : w.cell? ⟨R, i, none⟩ = some (.slice (some ⟨T, i * n, none⟩) n n) := h.2.2.2.1 i _ (heads_get hi)
theorem Tab.bd (h : Tab w T R p n F) (hn : 1 ≤ n) {i j : Nat} (hi : i < p) (hj : j < n) : inR (F i j) := by
  have := h.2.1.bd _ (row_lt hi hj)
  rwa [(row_div hj).1, (row_div hj).2] at this
/-- One row. -/
theorem Tab.row (h : Tab w T R p n F) (hn : 1 ≤ n) {i : Nat} (hi : i < p) : Sl true w T (T + 1) (.slice (some ⟨T, i * n, none⟩) n n) n (F i) := by
  have hpn := row_lt hi (show 0 < n by omega)
  obtain ⟨k1, k2, k3, k4, k5⟩ := h.2.1.known (by omega)
  have hl := h.2.1.len
  have hnl : n ≤ p * n := Nat.le_mul_of_pos_left n (by omega)
  refine ⟨h.2.1.size, by omega, fun j hj => h.bd hn hi hj, .inr ⟨T, i * n, n, rfl, Nat.le_refl _, by omega, Nat.le_refl _, by omega, fun j hj => ?_, k5⟩⟩
  have := k4 _ (row_lt hi hj)
  rw [(row_div hj).1, (row_div hj).2, Nat.zero_add] at this
  exact this
/-- One row has turned. -/
theorem Tab.put (h : Tab w T R p n F) (hn : 1 ≤ n) {i : Nat} (hi : i < p) {f : Nat → Int} (hf : Frame T (T + 1) w w') (hs : Sl true w' T (T + 1) (.slice (some ⟨T, i * n, none⟩) n n) n f) (ho : ∀ q, q < p * n → (q < i * n ∨ i * n + n ≤ q) → w'.cell? ⟨T, q, none⟩ = w.cell? ⟨T, q, none⟩) : Tab w' T R p n (fun y => if y = i then f else F y) := by
  have hR := h.2.2.keepF hf (by have := h.1; omega)
  have hpn := row_lt hi (show 0 < n by omega)
  obtain ⟨k1, k2, k3, k4, k5⟩ := h.2.1.known (by omega)
  obtain ⟨m1, m2, m3, m4, m5⟩ := hs.known (by omega)
  have hl := h.2.1.len
  refine ⟨h.1, ⟨hs.size, hl, fun q hq => ?_, .inr ⟨T, 0, p * n, rfl, Nat.le_refl _, by omega, Nat.le_refl _, by omega, fun q hq => ?_, m5⟩⟩, hR⟩
  · dsimp only
    have hd : q / n < p := (Nat.div_lt_iff_lt_mul (by omega)).2 hq
    have hm : q % n < n := Nat.mod_lt _ (by omega)
    by_cases e : q / n = i
    · rw [if_pos e]; exact hs.bd _ hm
    · rw [if_neg e]; exact h.bd hn hd hm
  · dsimp only
    have hm : q % n < n := Nat.mod_lt _ (by omega)
    have hq2 : q = q / n * n + q % n := by rw [Nat.mul_comm]; exact (Nat.div_add_mod q n).symm
    by_cases e : q / n = i
    · rw [if_pos e, Nat.zero_add]
      have := m4 _ hm
      rw [← e, ← hq2] at this
      exact this
    · rw [if_neg e, Nat.zero_add]
      have hout : q < i * n ∨ i * n + n ≤ q := by
        rcases Nat.lt_or_gt_of_ne e with h1 | h1
        · left
          have : (q / n + 1) * n ≤ i * n := Nat.mul_le_mul_right _ h1
          rw [Nat.add_mul, Nat.one_mul] at this
          omega
        · right
          have : (i + 1) * n ≤ q / n * n := Nat.mul_le_mul_right _ h1
          rw [Nat.add_mul, Nat.one_mul] at this
          omega
      rw [ho q hq hout]
      have := k4 q hq
      rwa [Nat.zero_add] at this
/-- One number has turned. -/
theorem Tab.store (h : Tab w T R p n F) (hn : 1 ≤ n) {i j : Nat} (hi : i < p) (hj : j < n) {x : Int} (hx : inR x) : Tab (w.setCell ⟨T, i * n + j, none⟩ (.int .i64 x)) T R p n (fun y t => if y = i ∧ t = j then x else F y t) := by
  have hs := (h.row hn hi).store hj hx
  have := h.put hn hi (w' := w.setCell ⟨T, i * n + j, none⟩ (.int .i64 x)) ((Frame.refl T (T + 1) w).setCell (p := ⟨T, i * n + j, none⟩) (Nat.le_refl T) (Nat.lt_succ_self T) _) hs (fun q hq ho => setCell_ne _ _ _ _ _ (by omega))
  exact this.congr hn (fun y t hy ht => by
    by_cases e : y = i
    · subst e
      simp
    · simp [e])
theorem Tab.frozen (h : Tab w T R p n F) (hp : 0 < p * n) : ∀ k, w.frozen? ⟨T, k, none⟩ = false := (h.2.1.known hp).2.2.2.2 rfl
end
end

section
open Go.RowKit Go.ChangeShapes Go.Sort
set_option linter.unusedVariables false
set_option linter.unusedSimpArgs false

theorem Try.info_rows22 : (Try.prog.info? 22).map (fun i => (i.zero, i.size, i.bytes)) = some (some (.slice none 0 0), 1, 24) := by kernel_rfl
/-- A block of heads under way. -/
theorem Box.setMap {w : World} {b p i : Nat} {G : Nat → Value} {u : Value} (h : Box w b ((List.range p).map G)) (hi : i < p) : Box (w.setCell ⟨b, i, none⟩ u) b ((List.range p).map (fun x => if x = i then u else G x)) := by
  obtain ⟨h1, h2, h3⟩ := h
  have hg : ∀ (G : Nat → Value) j, j < p → ((List.range p).map G)[j]? = some (G j) := fun G j hj => by rw [List.getElem?_map, List.getElem?_range hj]; rfl
  refine ⟨by simpa using h1, fun j v hj => ?_, fun k => by simpa using h3 k⟩
  rcases Nat.lt_or_ge j p with hl | hl
  · rw [hg _ j hl] at hj
    cases hj
    by_cases e : j = i
    · subst e
      rw [if_pos rfl]
      exact World.cell?_setCell_same _ _ _ (h2 j _ (hg G j hl))
    · rw [if_neg e, setCell_ne _ _ _ _ _ e]
      exact h2 j _ (hg G j hl)
  · rw [List.getElem?_eq_none (by simpa using hl)] at hj
    cases hj
theorem Box.atMap {w : World} {b p i : Nat} {G : Nat → Value} (h : Box w b ((List.range p).map G)) (hi : i < p) : w.cell? ⟨b, i, none⟩ = some (G i) := h.2.1 i _ (by rw [List.getElem?_map, List.getElem?_range hi]; rfl)

end

section
open Go.RowKit Go.ChangeShapes Go.Sort
set_option linter.unusedVariables false
set_option linter.unusedSimpArgs false

theorem Try.info22 : (Try.prog.info? 22).map (fun i => (i.zero, i.size, i.bytes)) = some (some (.slice none 0 0), 1, 24) := by kernel_rfl
/-- The head of a row of n numbers that fills block b. -/
abbrev hd (b n : Nat) : Value := .slice (some ⟨b, 0, none⟩) n n
/-- m rows of n numbers, row i in block b i; their heads in block g; all these blocks lie from base on below top. -/
def Mat (w : World) (base top g cap m n : Nat) (b : Nat → Nat) (F : Nat → Nat → Int) : Prop :=
  top ≤ w.heap.size ∧ base ≤ g ∧ g < top ∧ RowE w base 22 1 g cap m (fun i => [hd (b i) n]) ∧
  (∀ i, i < m → base ≤ b i ∧ b i < top ∧ b i ≠ g ∧ Sl true w (b i) (b i + 1) (hd (b i) n) n (F i)) ∧ ∀ i j, i < m → j < m → i ≠ j → b i ≠ b j
section
variable {w w' : World} {base top g cap m n : Nat} {b : Nat → Nat} {F G : Nat → Nat → Int}
theorem Mat.keepF {lo hi : Nat} (h : Mat w base top g cap m n b F) (hf : Frame lo hi w w') (hd : hi ≤ base ∨ top ≤ lo) : Mat w' base top g cap m n b F := by
  obtain ⟨h1, h2, h3, h4, h5, h6⟩ := h
  refine ⟨Nat.le_trans h1 hf.size, h2, h3, h4.keepF hf (by omega), fun i hi => ?_, h6⟩
  obtain ⟨k1, k2, k3, k4⟩ := h5 i hi
  exact ⟨k1, k2, k3, k4.keepF hf (by omega)⟩
theorem Mat.keep (h : Mat w base top g cap m n b F) (hb : Below w.heap.size w w') : Mat w' base top g cap m n b F :=
  h.keepF (Frame.of_below (lo := top) (hi := 0) hb (Nat.le_refl _)) (.inl (Nat.zero_le _))
theorem Mat.congr (h : Mat w base top g cap m n b F) (e : ∀ i j, i < m → j < n → G i j = F i j) : Mat w base top g cap m n b G := by
  obtain ⟨h1, h2, h3, h4, h5, h6⟩ := h
  refine ⟨h1, h2, h3, h4, fun i hi => ?_, h6⟩
  obtain ⟨k1, k2, k3, k4⟩ := h5 i hi
  exact ⟨k1, k2, k3, k4.congr (fun j hj => e i j hi hj)⟩
theorem Mat.head (h : Mat w base top g cap m n b F) {i : Nat} (hi : i < m) : w.cell? ⟨g, i, none⟩ = some (hd (b i) n) := by
  have := h.2.2.2.1.cell (fun _ => rfl) hi (j := 0) (by omega)
  simpa using this
theorem Mat.row (h : Mat w base top g cap m n b F) {i : Nat} (hi : i < m) : Sl true w (b i) (b i + 1) (hd (b i) n) n (F i) := (h.2.2.2.2.1 i hi).2.2.2
theorem Mat.blk (h : Mat w base top g cap m n b F) {i : Nat} (hi : i < m) : base ≤ b i ∧ b i < top := ⟨(h.2.2.2.2.1 i hi).1, (h.2.2.2.2.1 i hi).2.1⟩
theorem Mat.start (w : World) (m n : Nat) (b : Nat → Nat) (F : Nat → Nat → Int) : Mat (w.alloc (.cells #[] 22)) w.heap.size (w.heap.size + 1) w.heap.size 0 0 n b F :=
  ⟨by simp, Nat.le_refl _, Nat.lt_succ_self _, RowE.made w w.heap.size 22 1 _ (Nat.le_refl _), fun i hi => absurd hi (Nat.not_lt_zero _), fun i j hi => absurd hi (Nat.not_lt_zero _)⟩
/-- A number is laid in a row. -/
theorem Mat.store (h : Mat w base top g cap m n b F) {i j : Nat} (hi : i < m) (hj : j < n) {x : Int} (hx : inR x) : Mat (w.setCell ⟨b i, j, none⟩ (.int .i64 x)) base top g cap m n b (fun y t => if y = i ∧ t = j then x else F y t) := by
  obtain ⟨h1, h2, h3, h4, h5, h6⟩ := h
  have k := h5 i hi
  refine ⟨by simpa using h1, h2, h3, h4.keepF ((Frame.refl (b i) (b i + 1) w).setCell (Nat.le_refl _) (Nat.lt_succ_self _) _) (by omega), fun y hy => ?_, h6⟩
  obtain ⟨q1, q2, q3, q4⟩ := h5 y hy
  refine ⟨q1, q2, q3, ?_⟩
  by_cases e : y = i
  · subst e
    exact (q4.store0 hj hx).congr (fun t ht => by simp)
  · have := h6 y i hy hi e
    exact (q4.setOther (by show b i < _ ∨ _ ≤ b i; omega) _).congr (fun t ht => by simp [e])
/-- A new row, made ahead in the last block, is put at the end. -/
theorem Mat.push {B g' cap' : Nat} {f : Nat → Int} {ob : Obj} (h : Mat w base top g cap m n b F) (hB : top ≤ B) (hBs : B < w.heap.size) (hs : Sl true w B (B + 1) (hd B n) n f)
    (hr : RowE w' base 22 1 g' cap' (m + 1) (fun i => if i < m then [hd (b i) n] else [hd B n])) (hg : (w.alloc ob).grownBy w' (some g)) (ho : g' = g ∨ g' = (w.alloc ob).heap.size) (hl : g' < w'.heap.size) :
    Mat w' base w'.heap.size g' cap' (m + 1) n (fun i => if i < m then b i else B) (fun i => if i < m then F i else f) := by
  obtain ⟨h1, h2, h3, h4, h5, h6⟩ := h
  have hz := hg.size
  simp only [World.size_alloc] at hz ho
  have hF := Frame.ofGrown hg
  refine ⟨Nat.le_refl _, by omega, hl, ?_, fun i hi => ?_, fun i j hi hj hne => ?_⟩
  · exact hr.congr (fun j hj => by
      by_cases e : j < m
      · simp only [if_pos e]
      · simp only [if_neg e])
  · by_cases e : i < m
    · obtain ⟨q1, q2, q3, q4⟩ := h5 i e
      simp only [if_pos e]
      exact ⟨q1, by omega, by omega, (q4.alloc ob).keepF hF (by omega)⟩
    · simp only [if_neg e]
      exact ⟨by omega, by omega, by omega, (hs.alloc ob).keepF hF (by omega)⟩
  · by_cases e : i < m
    · have q := (h5 i e).2.1
      by_cases e2 : j < m
      · simp only [if_pos e, if_pos e2]; exact h6 i j e e2 hne
      · simp only [if_pos e, if_neg e2]; omega
    · by_cases e2 : j < m
      · have q := (h5 j e2).2.1
        simp only [if_neg e, if_pos e2]; omega
      · omega
end
end
end

section
open Go.RowKit Go.ChangeShapes Go.Sort
set_option linter.unusedVariables false
set_option linter.unusedSimpArgs false

/-- Two slices share no cell. -/
def Dis (u v : Value) : Prop := ∀ a b n m c d, u = .slice (some a) n c → v = .slice (some b) m d → n = 0 ∨ m = 0 ∨ a.block ≠ b.block ∨ a.off + n ≤ b.off ∨ b.off + m ≤ a.off
/-- A slice has no cell in block g. -/
def OffB (g : Nat) (u : Value) : Prop := ∀ a n c, u = .slice (some a) n c → n = 0 ∨ a.block ≠ g
theorem Dis.symm {u v : Value} (h : Dis u v) : Dis v u := fun a b n m c d e1 e2 => by
  have := h b a m n d c e2 e1
  omega

/-- In w the m cells behind (g, off) hold the slices u 0, u 1, ..; number i has the numbers F i 0, F i 1, .., ln i of them; all lie in blocks from lo on below hi; if o, all may be written and no two share a cell. -/
def RwU (o : Bool) (w : World) (lo hi g off cap m : Nat) (u : Nat → Value) (ln : Nat → Nat) (F : Nat → Nat → Int) : Prop :=
  hi ≤ w.heap.size ∧ m ≤ cap ∧ cap ≤ maxLen ∧ lo ≤ g ∧ g < hi ∧
      (∀ i, i < m → w.cell? ⟨g, off + i, none⟩ = some (u i) ∧ Sl o w lo hi (u i) (ln i) (F i)) ∧
      (o = true → (∀ k, w.frozen? ⟨g, k, none⟩ = false) ∧ (∀ i, i < m → OffB g (u i)) ∧ ∀ i j, i < m → j < m → i ≠ j → Dis (u i) (u j))
/-- In w the value V is a slice of m slices of such numbers. -/
def Rw (o : Bool) (w : World) (lo hi : Nat) (V : Value) (m : Nat) (ln : Nat → Nat) (F : Nat → Nat → Int) : Prop :=
  (hi ≤ w.heap.size ∧ m = 0 ∧ ∃ a cap, V = .slice a 0 cap ∧ (a = none → cap = 0)) ∨ ∃ (g off cap : Nat) (u : Nat → Value), V = .slice (some ⟨g, off, none⟩) m cap ∧ RwU o w lo hi g off cap m u ln F

section
variable {o o' : Bool} {w w' : World} {lo hi lo' hi' B : Nat} {v V : Value} {n m k g off cap : Nat} {f f' : Nat → Int} {u : Nat → Value} {ln ln' : Nat → Nat} {F F' : Nat → Nat → Int}
theorem Sl.offB (h : Sl o w lo hi v n f) {g : Nat} (hg : g < lo ∨ hi ≤ g) : OffB g v := fun a n' c e => by
  rcases h.2.2.2 with ⟨rfl, a', cap, hv, _⟩ | ⟨g', off, cap, hv, h1, h2, _⟩
  · rw [hv] at e; cases e; exact .inl rfl
  · rw [hv] at e; cases e; right; show g' ≠ g; omega
theorem Sl.dis {x : Value} (h : Sl o w lo hi v n f) (h' : Sl o' w' lo' hi' x k f') (hd : hi ≤ lo' ∨ hi' ≤ lo) : Dis v x := fun a b n' m' c d e1 e2 => by
  rcases h.2.2.2 with ⟨rfl, a', cap, hv, _⟩ | ⟨g, off, cap, hv, h1, h2, _⟩
  · rw [hv] at e1; cases e1; exact .inl rfl
  · rcases h'.2.2.2 with ⟨rfl, a', cap', hu, _⟩ | ⟨g', off', cap', hu, k1, k2, _⟩
    · rw [hu] at e2; cases e2; exact .inr (.inl rfl)
    · rw [hv] at e1; cases e1; rw [hu] at e2; cases e2
      right; right; left; show g ≠ g'; omega
theorem RwU.size (h : RwU o w lo hi g off cap m u ln F) : hi ≤ w.heap.size := h.1
theorem RwU.len (h : RwU o w lo hi g off cap m u ln F) : m ≤ maxLen := Nat.le_trans h.2.1 h.2.2.1
theorem RwU.blk (h : RwU o w lo hi g off cap m u ln F) : lo ≤ g ∧ g < hi := ⟨h.2.2.2.1, h.2.2.2.2.1⟩
theorem RwU.head (h : RwU o w lo hi g off cap m u ln F) {i : Nat} (hi' : i < m) : w.cell? ⟨g, off + i, none⟩ = some (u i) := (h.2.2.2.2.2.1 i hi').1
theorem RwU.row (h : RwU o w lo hi g off cap m u ln F) {i : Nat} (hi' : i < m) : Sl o w lo hi (u i) (ln i) (F i) := (h.2.2.2.2.2.1 i hi').2
theorem RwU.frozen (h : RwU true w lo hi g off cap m u ln F) (k : Nat) : w.frozen? ⟨g, k, none⟩ = false := (h.2.2.2.2.2.2 rfl).1 k
theorem RwU.rw (h : RwU o w lo hi g off cap m u ln F) : Rw o w lo hi (.slice (some ⟨g, off, none⟩) m cap) m ln F := .inr ⟨g, off, cap, u, rfl, h⟩
theorem Rw.size (h : Rw o w lo hi V m ln F) : hi ≤ w.heap.size := by
  rcases h with ⟨h, _⟩ | ⟨_, _, _, _, _, h⟩
  · exact h
  · exact h.size
theorem Rw.len (h : Rw o w lo hi V m ln F) : m ≤ maxLen := by
  rcases h with ⟨_, rfl, _⟩ | ⟨_, _, _, _, _, h⟩
  · exact Nat.zero_le _
  · exact h.len
theorem Rw.shape (h : Rw o w lo hi V m ln F) : ∃ a cap, V = .slice a m cap := by
  rcases h with ⟨_, rfl, a, cap, rfl, _⟩ | ⟨g, off, cap, u, rfl, _⟩
  · exact ⟨_, _, rfl⟩
  · exact ⟨_, _, rfl⟩
theorem Rw.at (h : Rw o w lo hi V m ln F) (hm : 0 < m) : ∃ (g off cap : Nat) (u : Nat → Value), V = .slice (some ⟨g, off, none⟩) m cap ∧ RwU o w lo hi g off cap m u ln F := by
  rcases h with ⟨_, h4, _⟩ | h4
  · omega
  · exact h4
theorem RwU.keepF (h : RwU o w lo hi g off cap m u ln F) (hf : Frame lo' hi' w w') (hd : hi ≤ lo' ∨ hi' ≤ lo) : RwU o w' lo hi g off cap m u ln F := by
  obtain ⟨h1, hc, hc', hg, hg', hcell, ho⟩ := h
  refine ⟨Nat.le_trans h1 hf.size, hc, hc', hg, hg', fun i hi => ⟨?_, (hcell i hi).2.keepF hf hd⟩, fun e => ⟨fun k => ?_, (ho e).2⟩⟩
  · rw [hf.cell (p := ⟨g, off + i, none⟩) (by show g < _; omega) (by show g < _ ∨ _ ≤ g; omega)]; exact (hcell i hi).1
  · rw [hf.frozen (p := ⟨g, k, none⟩) (by show g < _; omega) (by show g < _ ∨ _ ≤ g; omega)]; exact (ho e).1 k
theorem RwU.keep (h : RwU o w lo hi g off cap m u ln F) (hb : Below B w w') (hB : hi ≤ B) : RwU o w' lo hi g off cap m u ln F := by
  obtain ⟨h1, hc, hc', hg, hg', hcell, ho⟩ := h
  refine ⟨Nat.le_trans h1 hb.size, hc, hc', hg, hg', fun i hi => ⟨?_, (hcell i hi).2.keep hb hB⟩, fun e => ⟨fun k => ?_, (ho e).2⟩⟩
  · rw [hb.cell (p := ⟨g, off + i, none⟩) (by show g < B; omega)]; exact (hcell i hi).1
  · rw [hb.frozen (p := ⟨g, k, none⟩) (by show g < B; omega)]; exact (ho e).1 k
theorem RwU.wide (h : RwU o w lo hi g off cap m u ln F) (hl : lo' ≤ lo) (hh : hi ≤ hi') (hs : hi' ≤ w.heap.size) : RwU o w lo' hi' g off cap m u ln F := by
  obtain ⟨_, hc, hc', hg, hg', hcell, ho⟩ := h
  exact ⟨hs, hc, hc', by omega, by omega, fun i hi => ⟨(hcell i hi).1, (hcell i hi).2.wide hl hh hs⟩, ho⟩
theorem RwU.rd (h : RwU o w lo hi g off cap m u ln F) : RwU false w lo hi g off cap m u ln F := by
  obtain ⟨h1, hc, hc', hg, hg', hcell, ho⟩ := h
  exact ⟨h1, hc, hc', hg, hg', fun i hi => ⟨(hcell i hi).1, (hcell i hi).2.rd⟩, fun e => by cases e⟩
theorem RwU.congr (h : RwU o w lo hi g off cap m u ln F) (hl : ∀ i, i < m → ln' i = ln i) (e : ∀ i j, i < m → j < ln i → F' i j = F i j) : RwU o w lo hi g off cap m u ln' F' := by
  obtain ⟨h1, hc, hc', hg, hg', hcell, ho⟩ := h
  exact ⟨h1, hc, hc', hg, hg', fun i hi => ⟨(hcell i hi).1, by rw [hl i hi]; exact (hcell i hi).2.congr (fun j hj => e i j hi hj)⟩, ho⟩
theorem RwU.alloc (h : RwU o w lo hi g off cap m u ln F) (ob : Obj) : RwU o (w.alloc ob) lo hi g off cap m u ln F := h.keep ((Below.refl _ _).alloc (Nat.le_refl _) _) h.size
theorem RwU.drewN (h : RwU o w lo hi g off cap m u ln F) (k : Nat) : RwU o (w.drewN k) lo hi g off cap m u ln F := h.keep (below_drewN (Below.refl _ _) k) h.size
theorem RwU.drew (h : RwU o w lo hi g off cap m u ln F) : RwU o w.drew lo hi g off cap m u ln F := h.keep ((Below.refl _ _).drew) h.size
/-- A new row's head is laid at place i. -/
theorem RwU.putRow {U : Value} {n' : Nat} (h : RwU true w lo hi g off cap m u ln F) (hU : Sl true w hi hi' U n' f') (hh : hi ≤ hi') {i : Nat} (him : i < m) :
    RwU true (w.setCell ⟨g, off + i, none⟩ U) lo hi' g off cap m (fun y => if y = i then U else u y) (fun y => if y = i then n' else ln y) (fun y => if y = i then f' else F y) := by
  obtain ⟨h1, hc, hc', hg, hg', hcell, ho⟩ := h
  obtain ⟨h5, h6, h7⟩ := ho rfl
  have hfr : Frame g (g + 1) w (w.setCell ⟨g, off + i, none⟩ U) := (Frame.refl g (g + 1) w).setCell (Nat.le_refl _) (Nat.lt_succ_self _) _
  refine ⟨by simpa using hU.size, hc, hc', hg, by omega, fun y hy => ⟨?_, ?_⟩, fun _ => ⟨fun k => (World.frozen?_setCell _ _ _ _).trans (h5 k), fun y hy => ?_, fun y z hy hz hne => ?_⟩⟩
  · dsimp only
    by_cases e : y = i
    · subst e; rw [if_pos rfl]; exact World.cell?_setCell_same _ _ _ (hcell y hy).1
    · rw [if_neg e, setCell_ne _ _ _ _ _ (by omega)]; exact (hcell y hy).1
  · dsimp only
    by_cases e : y = i
    · subst e; simp only [if_pos]
      exact (hU.keepF hfr (by omega)).wide (by omega) (Nat.le_refl _) (by simpa using hU.size)
    · simp only [if_neg e]
      have hs := (hcell y hy).2
      refine Sl.wide (hi := hi) ?_ (Nat.le_refl _) hh (by simpa using hU.size)
      refine ⟨by simpa using h1, hs.2.1, hs.2.2.1, ?_⟩
      rcases hs.2.2.2 with q | ⟨g1, off1, c1, q1, q2, q3, q4, q5, q6, q7⟩
      · exact .inl q
      · refine .inr ⟨g1, off1, c1, q1, q2, q3, q4, q5, fun j hj => ?_, fun e k => (World.frozen?_setCell _ _ _ _).trans (q7 e k)⟩
        have := h6 y hy _ _ _ q1
        have hne : g1 ≠ g := by
          rcases this with z | z
          · omega
          · exact z
        rw [World.cell?_setCell_other _ _ _ _ (fun e => hne (by injection e with e1; exact e1.symm))]
        exact q6 j hj
  · dsimp only
    by_cases e : y = i
    · rw [if_pos e]; exact hU.offB (by omega)
    · rw [if_neg e]; exact h6 y hy
  · dsimp only
    by_cases e : y = i
    · have e2 : ¬ z = i := by omega
      rw [if_pos e, if_neg e2]
      exact (((hcell z hz).2).dis hU (.inl (Nat.le_refl _))).symm
    · rw [if_neg e]
      by_cases e2 : z = i
      · rw [if_pos e2]; exact ((hcell y hy).2).dis hU (.inl (Nat.le_refl _))
      · rw [if_neg e2]; exact h7 y z hy hz hne
theorem Rw.keepF (h : Rw o w lo hi V m ln F) (hf : Frame lo' hi' w w') (hd : hi ≤ lo' ∨ hi' ≤ lo) : Rw o w' lo hi V m ln F := by
  rcases h with ⟨h0, h⟩ | ⟨g, off, cap, u, hv, h⟩
  · exact .inl ⟨Nat.le_trans h0 hf.size, h⟩
  · exact .inr ⟨g, off, cap, u, hv, h.keepF hf hd⟩
theorem Rw.keep (h : Rw o w lo hi V m ln F) (hb : Below B w w') (hB : hi ≤ B) : Rw o w' lo hi V m ln F := by
  rcases h with ⟨h0, h⟩ | ⟨g, off, cap, u, hv, h⟩
  · exact .inl ⟨Nat.le_trans h0 hb.size, h⟩
  · exact .inr ⟨g, off, cap, u, hv, h.keep hb hB⟩
theorem Rw.wide (h : Rw o w lo hi V m ln F) (hl : lo' ≤ lo) (hh : hi ≤ hi') (hs : hi' ≤ w.heap.size) : Rw o w lo' hi' V m ln F := by
  rcases h with ⟨h0, h⟩ | ⟨g, off, cap, u, hv, h⟩
  · exact .inl ⟨hs, h⟩
  · exact .inr ⟨g, off, cap, u, hv, h.wide hl hh hs⟩
theorem Rw.rd (h : Rw o w lo hi V m ln F) : Rw false w lo hi V m ln F := by
  rcases h with h | ⟨g, off, cap, u, hv, h⟩
  · exact .inl h
  · exact .inr ⟨g, off, cap, u, hv, h.rd⟩
theorem Rw.congr (h : Rw o w lo hi V m ln F) (hl : ∀ i, i < m → ln' i = ln i) (e : ∀ i j, i < m → j < ln i → F' i j = F i j) : Rw o w lo hi V m ln' F' := by
  rcases h with h | ⟨g, off, cap, u, hv, h⟩
  · exact .inl h
  · exact .inr ⟨g, off, cap, u, hv, h.congr hl e⟩
theorem Rw.rowLen (h : Rw o w lo hi V m ln F) {i : Nat} (hi' : i < m) : ln i ≤ maxLen := by
  obtain ⟨g, off, cap, u, _, h⟩ := h.at (by omega)
  exact (h.row hi').len
theorem Rw.bd (h : Rw o w lo hi V m ln F) {i j : Nat} (hi' : i < m) (hj : j < ln i) : inR (F i j) := by
  obtain ⟨g, off, cap, u, _, h⟩ := h.at (by omega)
  exact (h.row hi').bd j hj
theorem Rw.alloc (h : Rw o w lo hi V m ln F) (ob : Obj) : Rw o (w.alloc ob) lo hi V m ln F := h.keep ((Below.refl _ _).alloc (Nat.le_refl _) _) h.size
theorem Rw.drewN (h : Rw o w lo hi V m ln F) (k : Nat) : Rw o (w.drewN k) lo hi V m ln F := h.keep (below_drewN (Below.refl _ _) k) h.size
theorem Rw.drew (h : Rw o w lo hi V m ln F) : Rw o w.drew lo hi V m ln F := h.keep ((Below.refl _ _).drew) h.size
theorem Rw.setOther (h : Rw o w lo hi V m ln F) {p : Addr} (hb : p.block < lo ∨ hi ≤ p.block) (x : Value) : Rw o (w.setCell p x) lo hi V m ln F :=
  h.keepF ((Frame.refl p.block (p.block + 1) w).setCell (Nat.le_refl _) (Nat.lt_succ_self _) x) (by omega)
theorem Rw.nil (w : World) (lo hi : Nat) (hh : hi ≤ w.heap.size) (ln : Nat → Nat) (F : Nat → Nat → Int) : Rw o w lo hi (.slice none 0 0) 0 ln F := .inl ⟨hh, rfl, none, 0, rfl, fun _ => rfl⟩
/-- Rows that share a table. -/
theorem Tab.rwU {T R p : Nat} (h : Tab w T R p n F) (hn : 1 ≤ n) (hp2 : p ≤ maxLen) (hl : lo ≤ T) (hl' : lo ≤ R) : RwU true w lo w.heap.size R 0 p p (fun i => .slice (some ⟨T, i * n, none⟩) n n) (fun _ => n) F := by
  have hz := h.size
  have hTR := h.1
  refine ⟨Nat.le_refl _, Nat.le_refl _, hp2, hl', hz.2, fun i hi => ⟨?_, (h.row hn hi).wide hl (by omega) (Nat.le_refl _)⟩, fun _ => ⟨fun k => h.2.2.2.2 k, fun i hi a n' c e => ?_, fun i j hi hj hne a b n' m' c d e1 e2 => ?_⟩⟩
  · rw [Nat.zero_add]; exact h.head hi
  · cases e; right; exact hTR
  · cases e1; cases e2
    right; right; right
    show i * n + n ≤ j * n ∨ j * n + n ≤ i * n
    rcases Nat.lt_or_gt_of_ne hne with q | q
    · left
      have : (i + 1) * n ≤ j * n := Nat.mul_le_mul_right _ q
      rw [Nat.add_mul, Nat.one_mul] at this; exact this
    · right
      have : (j + 1) * n ≤ i * n := Nat.mul_le_mul_right _ q
      rw [Nat.add_mul, Nat.one_mul] at this; exact this
end

/-- What is written lies in the cells of the slice v. -/
structure Only (v : Value) (w w' : World) : Prop where
  os : w'.os = w.os
  tape : w'.tape = w.tape
  output : w'.output = w.output
  size : w'.heap.size = w.heap.size
  cell : ∀ b k, (∀ a n c, v = .slice (some a) n c → ¬ (b = a.block ∧ a.off ≤ k ∧ k < a.off + n)) → w'.cell? ⟨b, k, none⟩ = w.cell? ⟨b, k, none⟩
  frozen : ∀ b k, w'.frozen? ⟨b, k, none⟩ = w.frozen? ⟨b, k, none⟩
theorem Only.refl (v : Value) (w : World) : Only v w w := ⟨rfl, rfl, rfl, rfl, fun _ _ _ => rfl, fun _ _ => rfl⟩
theorem Only.drewN {v : Value} {w w' : World} (h : Only v w w') (k : Nat) : Only v w (w'.drewN k) := ⟨h.os, h.tape, h.output, h.size, h.cell, h.frozen⟩
theorem Only.setCell {w w' : World} {g off n cap i : Nat} {x : Value} (h : Only (.slice (some ⟨g, off, none⟩) n cap) w w') (hi : i < n) : Only (.slice (some ⟨g, off, none⟩) n cap) w (w'.setCell ⟨g, off + i, none⟩ x) :=
  ⟨h.os, h.tape, h.output, by simpa [World.setCell] using h.size, fun b k hk => (World.cell?_setCell_other _ _ _ _ (fun e => by
    cases e
    exact hk _ _ _ rfl ⟨rfl, Nat.le_add_right _ _, by show off + i < off + n; omega⟩)).trans (h.cell b k hk), fun b k => (World.frozen?_setCell _ _ _ _).trans (h.frozen b k)⟩
section
variable {o : Bool} {w w' : World} {lo hi : Nat} {v x : Value} {n g off cap m : Nat} {f : Nat → Int} {u : Nat → Value} {ln ln' : Nat → Nat} {F F' : Nat → Nat → Int}
theorem Sl.keepOnly (h : Sl o w lo hi x n f) (ho : Only v w w') (hd : Dis v x) : Sl o w' lo hi x n f := by
  obtain ⟨h1, h2, h3, h4⟩ := h
  refine ⟨by rw [ho.size]; exact h1, h2, h3, ?_⟩
  rcases h4 with h4 | ⟨g, off, cap, hv, hg, hg', hc, hc', hcell, hf⟩
  · exact .inl h4
  · refine .inr ⟨g, off, cap, hv, hg, hg', hc, hc', fun j hj => ?_, fun e k => by rw [ho.frozen]; exact hf e k⟩
    rw [ho.cell]
    · exact hcell j hj
    · intro a k c e q
      have := hd a _ k n c cap e hv
      simp only at this q
      omega
/-- The numbers of row i have turned. -/
theorem RwU.putOnly (h : RwU true w lo hi g off cap m u ln F) {i : Nat} (hi' : i < m) (ho : Only (u i) w w') (hs : Sl true w' lo hi (u i) (ln i) f) : RwU true w' lo hi g off cap m u ln (fun y => if y = i then f else F y) := by
  obtain ⟨h1, hc, hc', hg, hg', hcell, hoo⟩ := h
  obtain ⟨h5, h6, h7⟩ := hoo rfl
  refine ⟨by rw [ho.size]; exact h1, hc, hc', hg, hg', fun y hy => ⟨?_, ?_⟩, fun _ => ⟨fun k => by rw [ho.frozen]; exact h5 k, h6, h7⟩⟩
  · rw [ho.cell]
    · exact (hcell y hy).1
    · intro a k c e q
      have := h6 i hi' a k c e
      omega
  · dsimp only
    by_cases e : y = i
    · subst e; rw [if_pos rfl]; exact hs
    · rw [if_neg e]; exact (hcell y hy).2.keepOnly ho (h7 i y hi' hy (fun q => e q.symm))
/-- A number of row i is laid. -/
theorem RwU.store (h : RwU true w lo hi g off cap m u ln F) {i j g1 off1 c1 : Nat} {y : Int} (hi' : i < m) (hu : u i = .slice (some ⟨g1, off1, none⟩) (ln i) c1) (hj : j < ln i) (hy : inR y) :
    RwU true (w.setCell ⟨g1, off1 + j, none⟩ (.int .i64 y)) lo hi g off cap m u ln (fun a b => if a = i ∧ b = j then y else F a b) := by
  have hr := h.row hi'
  rw [hu] at hr
  have := h.putOnly (w' := w.setCell ⟨g1, off1 + j, none⟩ (.int .i64 y)) (i := i) (f := fun b => if b = j then y else F i b) hi' (by rw [hu]; exact (Only.refl _ w).setCell hj) (by rw [hu]; exact hr.store hj hy)
  refine this.congr (fun _ _ => rfl) (fun a b _ _ => ?_)
  by_cases e : a = i
  · subst e; simp
  · simp [e]
end

/-- Rows that are put one by one into a list that grows by append. -/
def RwG (w : World) (base top g cap m : Nat) (u : Nat → Value) (ln : Nat → Nat) (F : Nat → Nat → Int) : Prop :=
  top ≤ w.heap.size ∧ base ≤ g ∧ g < top ∧ RowE w base 22 1 g cap m (fun i => [u i]) ∧
  (∀ i, i < m → Sl true w base top (u i) (ln i) (F i) ∧ OffB g (u i)) ∧ ∀ i j, i < m → j < m → i ≠ j → Dis (u i) (u j)
section
variable {w w' : World} {base top g cap m n : Nat} {u : Nat → Value} {U : Value} {f : Nat → Int} {ln ln' : Nat → Nat} {F G : Nat → Nat → Int}
theorem RwG.keepF {lo hi : Nat} (h : RwG w base top g cap m u ln F) (hf : Frame lo hi w w') (hd : hi ≤ base ∨ top ≤ lo) : RwG w' base top g cap m u ln F := by
  obtain ⟨h1, h2, h3, h4, h5, h6⟩ := h
  exact ⟨Nat.le_trans h1 hf.size, h2, h3, h4.keepF hf (by omega), fun i hi => ⟨(h5 i hi).1.keepF hf (by omega), (h5 i hi).2⟩, h6⟩
theorem RwG.keep (h : RwG w base top g cap m u ln F) (hb : Below w.heap.size w w') : RwG w' base top g cap m u ln F :=
  h.keepF (Frame.of_below (lo := top) (hi := 0) hb (Nat.le_refl _)) (.inl (Nat.zero_le _))
theorem RwG.start (w : World) (u : Nat → Value) (ln : Nat → Nat) (F : Nat → Nat → Int) : RwG (w.alloc (.cells #[] 22)) w.heap.size (w.heap.size + 1) w.heap.size 0 0 u ln F :=
  ⟨by simp, Nat.le_refl _, Nat.lt_succ_self _, RowE.made w w.heap.size 22 1 _ (Nat.le_refl _), fun i hi => absurd hi (Nat.not_lt_zero _), fun i j hi => absurd hi (Nat.not_lt_zero _)⟩
theorem RwG.congr (h : RwG w base top g cap m u ln F) (hl : ∀ i, i < m → ln' i = ln i) (e : ∀ i j, i < m → j < ln i → G i j = F i j) : RwG w base top g cap m u ln' G := by
  obtain ⟨h1, h2, h3, h4, h5, h6⟩ := h
  exact ⟨h1, h2, h3, h4, fun i hi => ⟨by rw [hl i hi]; exact (h5 i hi).1.congr (fun j hj => e i j hi hj), (h5 i hi).2⟩, h6⟩
/-- A new row, made ahead, is put at the end. -/
theorem RwG.push {lo hi g' cap' : Nat} {ob : Obj} (h : RwG w base top g cap m u ln F) (hs : Sl true w lo hi U n f) (hlo : top ≤ lo)
    (hr : RowE w' base 22 1 g' cap' (m + 1) (fun i => if i < m then [u i] else [U])) (hg : (w.alloc ob).grownBy w' (some g)) (ho : g' = g ∨ g' = (w.alloc ob).heap.size) (hl : g' < w'.heap.size) :
    RwG w' base w'.heap.size g' cap' (m + 1) (fun i => if i < m then u i else U) (fun i => if i < m then ln i else n) (fun i => if i < m then F i else f) := by
  obtain ⟨h1, h2, h3, h4, h5, h6⟩ := h
  have hz := hg.size
  have hsz := hs.size
  simp only [World.size_alloc] at hz ho
  have hF := Frame.ofGrown hg
  refine ⟨Nat.le_refl _, by omega, hl, ?_, fun i hi => ?_, fun i j hi hj hne => ?_⟩
  · exact hr.congr (fun j hj => by
      by_cases e : j < m
      · simp only [if_pos e]
      · simp only [if_neg e])
  · by_cases e : i < m
    · obtain ⟨q1, q2⟩ := h5 i e
      simp only [if_pos e]
      refine ⟨?_, fun a k c ea => ?_⟩
      · -- the row lies apart from the list's old block
        obtain ⟨a1, a2, a3, a4⟩ := q1.alloc ob
        refine Sl.wide (lo := base) (hi := top) ⟨by omega, a2, a3, ?_⟩ (Nat.le_refl _) (by omega) (Nat.le_refl _)
        rcases a4 with a4 | ⟨b1, off, c1, b2, b3, b4, b5, b6, b7, b8⟩
        · exact .inl a4
        · have hne : 0 < ln i → b1 ≠ g := fun hp => by
            rcases q2 _ _ _ b2 with z | z
            · omega
            · exact z
          by_cases e0 : ln i = 0
          · exact .inl ⟨e0, some ⟨b1, off, none⟩, c1, by rw [b2, e0], fun h => by cases h⟩
          · refine .inr ⟨b1, off, c1, b2, b3, b4, b5, b6, fun j hj => ?_, fun e k => ?_⟩
            · have hn := hne (by omega)
              rw [hF.cell (p := ⟨b1, off + j, none⟩) (by show b1 < _; simp; omega) (by show b1 < g ∨ g + 1 ≤ b1; omega)]; exact b7 j hj
            · have hn := hne (by omega)
              rw [hF.frozen (p := ⟨b1, k, none⟩) (by show b1 < _; simp; omega) (by show b1 < g ∨ g + 1 ≤ b1; omega)]; exact b8 e k
      · rcases ho with rfl | rfl
        · exact q2 a k c ea
        · rcases q1.2.2.2 with ⟨z, a', c', hv, _⟩ | ⟨b1, off, c1, hv, b3, b4, _⟩
          · rw [hv] at ea; cases ea; exact .inl rfl
          · rw [hv] at ea; cases ea; right; show b1 ≠ w.heap.size + 1; omega
    · simp only [if_neg e]
      refine ⟨((hs.alloc ob).keepF hF (by omega)).wide (by omega) (by omega) (Nat.le_refl _), hs.offB (by omega)⟩
  · by_cases e : i < m
    · simp only [if_pos e]
      by_cases e2 : j < m
      · simp only [if_pos e2]; exact h6 i j e e2 hne
      · simp only [if_neg e2]; exact (h5 i e).1.dis hs (.inl hlo)
    · simp only [if_neg e]
      have e2 : j < m := by omega
      simp only [if_pos e2]
      exact ((h5 j e2).1.dis hs (.inl hlo)).symm
theorem RwG.head (h : RwG w base top g cap m u ln F) {i : Nat} (hi : i < m) : w.cell? ⟨g, i, none⟩ = some (u i) := by
  have := h.2.2.2.1.cell (fun _ => rfl) hi (j := 0) (by omega)
  simpa using this
/-- The list, done. -/
theorem RwG.rwU (h : RwG w base top g cap m u ln F) (hcap : m ≤ cap) (hcap' : cap ≤ maxLen) : RwU true w base top g 0 cap m u ln F := by
  have hh := fun i (hi : i < m) => h.head hi
  obtain ⟨h1, h2, h3, h4, h5, h6⟩ := h
  exact ⟨h1, hcap, hcap', h2, h3, fun i hi => ⟨by rw [Nat.zero_add]; exact hh i hi, (h5 i hi).1⟩, fun _ => ⟨fun k => h4.frozen k, fun i hi => (h5 i hi).2, h6⟩⟩
theorem RwG.caps (h : RwG w base top g cap m u ln F) : m ≤ cap ∧ cap ≤ maxLen := by
  rcases h.2.2.2.1.2 with ⟨h2, _⟩ | ⟨g', cap', cur, hv, hb, hh, hn, hc, hs, ht⟩
  · cases h2
  · cases hv; exact ⟨hn, hc⟩
end

/-- What the numbers of the rows ahead of row i are together. -/
def pre (ln : Nat → Nat) : Nat → Nat
  | 0 => 0
  | i + 1 => pre ln i + ln i
theorem pre_le (ln : Nat → Nat) {i : Nat} : ∀ {m}, i ≤ m → pre ln i ≤ pre ln m
  | 0, h => by obtain rfl : i = 0 := by omega
               exact Nat.le_refl _
  | m + 1, h => by
    by_cases e : i ≤ m
    · have := pre_le ln e; simp only [pre]; omega
    · obtain rfl : i = m + 1 := by omega
      exact Nat.le_refl _
theorem pre_one (ln : Nat → Nat) {i m : Nat} (h : i < m) : pre ln i + ln i ≤ pre ln m := pre_le ln (i := i + 1) h
theorem pre_congr {ln ln' : Nat → Nat} : ∀ {m}, (∀ i, i < m → ln i = ln' i) → pre ln m = pre ln' m
  | 0, _ => rfl
  | m + 1, h => by simp only [pre]; rw [pre_congr (m := m) (fun i hi => h i (by omega)), h m (by omega)]

theorem pre_const (n : Nat) : ∀ m, pre (fun _ => n) m = m * n
  | 0 => by simp [pre]
  | m + 1 => by simp only [pre]; rw [pre_const n m, Nat.add_mul, Nat.one_mul]

open Go.WideShapes Go.ChangeAt Go.Deep in
/-- Rows that came in, read off the row's own words. -/
theorem Rw.came {H : Type} {enc : TypeId × Value → H} {P : Program} {W : World} {t e q : TypeId} {fuel : Nat} {c : Value} {y : DataW H × List MemPlace}
    (ht : P.underlying t = some (.slice e)) (he : P.underlying e = some (.slice q)) (hq : P.underlying q = some (.int .i64)) (ce : P.cellsOf e = 1) (cq : P.cellsOf q = 1)
    (h : DataW.trod enc P W 0 (fun _ => true) true fuel t [c] = some y) : ∃ m ln F, Rw false W 0 W.heap.size c m ln F := by
  rcases open_slice1 ht ce h with ⟨hcs, _⟩ | ⟨a, len, cap, k, n, V, D, Pl, hcs, hb, hl, hm, hmm, _, hx⟩
  · cases hcs
    exact ⟨0, fun _ => 0, fun _ _ => 0, Rw.nil W 0 _ (Nat.le_refl _) _ _⟩
  · cases hcs
    rcases Nat.eq_zero_or_pos len with h0 | h0
    · subst h0
      exact ⟨0, fun _ => 0, fun _ _ => 0, .inl ⟨Nat.le_refl _, rfl, _, _, rfl, fun h => by cases h⟩⟩
    · simp only [if_true] at hmm
      subst hmm
      obtain ⟨b, off, spot⟩ := a
      have hspot : spot = none := by simpa [Addr.add] using World.cell?_spot (hx 0 (by omega)).1
      subst hspot
      have hr : ∀ i, i < k → ∃ z : Nat × (Nat → Int), Sl false W 0 W.heap.size (V i) z.1 z.2 := fun i hi => by
        obtain ⟨n', f', hs⟩ := Sl.came he hq cq (hx i hi).2
        exact ⟨(n', f'), hs⟩
      haveI : Inhabited (Nat × (Nat → Int)) := ⟨(0, fun _ => 0)⟩
      obtain ⟨z, hz⟩ := choose_lt hr
      refine ⟨len, fun i => (z i).1, fun i => (z i).2, .inr ⟨b, off, k, V, rfl, Nat.le_refl _, hl, hm, Nat.zero_le _, ?_, fun i hi => ⟨?_, hz i (by omega)⟩, fun e => by cases e⟩⟩
      · have := World.block_lt_of_cell? _ _ (hx 0 (by omega)).1
        simpa [Addr.add] using this
      · have := (hx i (by omega)).1
        rwa [Go.WideShapes.add_plain] at this
end

section
open Go.RowKit Go.ChangeShapes Go.Sort
set_option linter.unusedVariables false
set_option linter.unusedSimpArgs false

structure RwF where
  o : Bool
  lo : Nat
  hi : Nat
  v : Value
  m : Nat
  ln : Nat → Nat
  F : Nat → Nat → Int

def StR (W w : World) (bs : List (Nat × List Value)) (ss : List SlF) (rs : List RwF) : Prop :=
  Below W.heap.size W w ∧ (∀ b ∈ bs, Box w b.1 b.2) ∧ (∀ s ∈ ss, Sl s.o w s.lo s.hi s.v s.n s.f) ∧ ∀ r ∈ rs, Rw r.o w r.lo r.hi r.v r.m r.ln r.F

section
variable {W w w' : World} {bs : List (Nat × List Value)} {ss : List SlF} {rs : List RwF}
theorem StR.st (h : StR W w bs ss rs) : St W w bs ss := ⟨h.1, h.2.1, h.2.2.1⟩
theorem StR.keep (h : StR W w bs ss rs) (hb : Below w.heap.size w w') : StR W w' bs ss rs := by
  have hst := h.st.keep hb
  exact ⟨hst.1, hst.2.1, hst.2.2, fun r hr => (h.2.2.2 r hr).keep hb (h.2.2.2 r hr).size⟩
theorem StR.sl (h : StR W w bs ss rs) (i : Nat) (s : SlF) (hi : ss[i]? = some s) : Sl s.o w s.lo s.hi s.v s.n s.f := h.2.2.1 s (List.mem_of_getElem? hi)
theorem StR.rw (h : StR W w bs ss rs) (i : Nat) (s : RwF) (hi : rs[i]? = some s) : Rw s.o w s.lo s.hi s.v s.m s.ln s.F := h.2.2.2 s (List.mem_of_getElem? hi)
theorem StR.box (h : StR W w bs ss rs) (i : Nat) (b : Nat × List Value) (hi : bs[i]? = some b) : Box w b.1 b.2 := h.2.1 b (List.mem_of_getElem? hi)
theorem StR.addSl (h : StR W w bs ss rs) (s : SlF) (hs : Sl s.o w s.lo s.hi s.v s.n s.f) : StR W w bs (s :: ss) rs :=
  ⟨h.1, h.2.1, (h.st.addSl s hs).2.2, h.2.2.2⟩
theorem StR.addRw (h : StR W w bs ss rs) (s : RwF) (hs : Rw s.o w s.lo s.hi s.v s.m s.ln s.F) : StR W w bs ss (s :: rs) :=
  ⟨h.1, h.2.1, h.2.2.1, fun x hx => by
    rcases List.mem_cons.1 hx with rfl | hx
    · exact hs
    · exact h.2.2.2 x hx⟩
theorem StR.addBox (h : StR W w bs ss rs) (b : Nat) (vs : List Value) (hb : Box w b vs) : StR W w ((b, vs) :: bs) ss rs :=
  ⟨h.1, (h.st.addBox b vs hb).2.1, h.2.2.1, h.2.2.2⟩
theorem StR.start (W : World) : StR W W [] [] [] := ⟨Below.refl _ _, (fun _ h => absurd h List.not_mem_nil), (fun _ h => absurd h List.not_mem_nil), (fun _ h => absurd h List.not_mem_nil)⟩
theorem StR.alloc (h : StR W w bs ss rs) (o : Obj) : StR W (w.alloc o) bs ss rs := h.keep ((Below.refl _ _).alloc (Nat.le_refl _) _)
theorem StR.drew (h : StR W w bs ss rs) : StR W w.drew bs ss rs := h.keep (Below.refl _ _).drew
theorem StR.drewN (h : StR W w bs ss rs) (n : Nat) : StR W (w.drewN n) bs ss rs := h.keep (below_drewN (Below.refl _ _) n)
theorem StR.write (h : StR W w bs ss rs) {lo hi : Nat} (hf : Frame lo hi w w') (hlo : W.heap.size ≤ lo) (hbs : ∀ b ∈ bs, b.1 < lo ∨ hi ≤ b.1) (hss : ∀ s ∈ ss, s.hi ≤ lo ∨ hi ≤ s.lo) (hrs : ∀ s ∈ rs, s.hi ≤ lo ∨ hi ≤ s.lo) : StR W w' bs ss rs :=
  ⟨h.1.trans (hf.below hlo h.1.size), fun b hm => (h.2.1 b hm).keepF hf (hbs b hm), fun s hm => (h.2.2.1 s hm).keepF hf (hss s hm), fun s hm => (h.2.2.2 s hm).keepF hf (hrs s hm)⟩
theorem StR.writeTo (h : StR W w bs ss rs) {lo hi : Nat} (hf : Frame lo hi w w') (hlo : W.heap.size ≤ lo) (hbs : ∀ b ∈ bs, b.1 < lo ∨ hi ≤ b.1) (ss' : List SlF) (rs' : List RwF) (hss : ∀ s ∈ ss', s ∈ ss ∧ (s.hi ≤ lo ∨ hi ≤ s.lo)) (hrs : ∀ s ∈ rs', s ∈ rs ∧ (s.hi ≤ lo ∨ hi ≤ s.lo)) : StR W w' bs ss' rs' :=
  ⟨h.1.trans (hf.below hlo h.1.size), fun b hm => (h.2.1 b hm).keepF hf (hbs b hm), fun s hm => (h.2.2.1 s (hss s hm).1).keepF hf (hss s hm).2, fun s hm => (h.2.2.2 s (hrs s hm).1).keepF hf (hrs s hm).2⟩
theorem StR.boxNew (h : StR W w bs ss rs) (v0 v1 : Value) (t : TypeId) : StR W (w.alloc (.cells #[v0, v1] t)) ((w.heap.size, [v0, v1]) :: bs) ss rs :=
  (h.alloc _).addBox _ _ (Box.made _ _ _ _ (fun j v h => by simpa using h))
theorem StR.boxNew3 (h : StR W w bs ss rs) (v0 v1 v2 : Value) (t : TypeId) : StR W (w.alloc (.cells #[v0, v1, v2] t)) ((w.heap.size, [v0, v1, v2]) :: bs) ss rs :=
  (h.alloc _).addBox _ _ (Box.made _ _ _ _ (fun j v h => by simpa using h))
theorem StR.boxSet3 {b : Nat} {v0 v1 v2 u0 u1 u2 : Value} (h : StR W w ((b, [v0, v1, v2]) :: bs) ss rs) (hb : W.heap.size ≤ b) (hbs : ∀ x ∈ bs, x.1 < b ∨ b + 1 ≤ x.1) (hss : ∀ s ∈ ss, s.hi ≤ b ∨ b + 1 ≤ s.lo) (hrs : ∀ s ∈ rs, s.hi ≤ b ∨ b + 1 ≤ s.lo) :
    StR W (((w.setCell ⟨b, 0, none⟩ u0).setCell ⟨b, 1, none⟩ u1).setCell ⟨b, 2, none⟩ u2) ((b, [u0, u1, u2]) :: bs) ss rs := by
  have hbx := (h.box 0 _ rfl).set3 (u0 := u0) (u1 := u1) (u2 := u2)
  have h2 : StR W w bs ss rs := ⟨h.1, fun x hx => h.2.1 x (List.mem_cons_of_mem _ hx), h.2.2.1, h.2.2.2⟩
  exact (h2.write (lo := b) (hi := b + 1) ((((Frame.refl b (b + 1) w).setCell (Nat.le_refl _) (Nat.lt_succ_self _) _).setCell (Nat.le_refl _) (Nat.lt_succ_self _) _).setCell (Nat.le_refl _) (Nat.lt_succ_self _) _) hb hbs hss hrs).addBox _ _ hbx
end
theorem Box.c3 {w : World} {b : Nat} {v0 v1 v2 : Value} (h : Box w b [v0, v1, v2]) : w.cell? ⟨b, 0, none⟩ = some v0 ∧ w.cell? ⟨b, 1, none⟩ = some v1 ∧ w.cell? ⟨b, 2, none⟩ = some v2 :=
  ⟨h.2.1 0 v0 rfl, h.2.1 1 v1 rfl, h.2.1 2 v2 rfl⟩

section
variable {o : Bool} {w w' : World} {lo hi lo' hi' g off n cap c' : Nat} {a : Option Addr} {f f' : Nat → Int}
theorem Only.setCells {x : Nat} : ∀ (vs : List Value) (k : Nat) {w w' : World}, k + vs.length ≤ n → Only (.slice (some ⟨g, off, none⟩) n cap) w w' → Only (.slice (some ⟨g, off, none⟩) n cap) w (w'.setCells g (off + k) vs)
  | [], _, _, _, _, h => h
  | v :: r, k, w, w', hk, h => by
    have hk' : k + (r.length + 1) ≤ n := by simpa using hk
    exact Only.setCells (x := x) r (k + 1) (by omega) (h.setCell (x := v) (i := k) (by omega))
theorem wpList_copyR {ops : Array Oper} {rest : List Oper} {p : Oper} {b : Act} {Q : Exit → Act → World → Prop} (hgd : p.guard = none) (d s : Operand)
    (ho : p.op = .call { callee := .builtin .copy, args := #[d, s], argTypes := #[22, 22] })
    (hs : Sl true w lo hi (.slice (some ⟨g, off, none⟩) n cap) n f) (ht : Sl o w lo' hi' (.slice a n c') n f')
    (hd : b.eval d = .slice (some ⟨g, off, none⟩) n cap) (he : b.eval s = .slice a n c') (hn : 0 < n)
    (h : ∀ w', Only (.slice (some ⟨g, off, none⟩) n cap) w w' → Frame lo hi w w' → Sl true w' lo hi (.slice (some ⟨g, off, none⟩) n cap) n f' → wpList Try.prog ops Q rest (b.put p.dst (goInt n)) w') : wpList Try.prog ops Q (p :: rest) b w := by
  obtain ⟨hg1, hg2, _, _, _⟩ := hs.known hn
  refine wpList_plain hgd fun K hK => ?_
  have hrun := run_copy_sl (P := Try.prog) hs 0 n (by omega) n cap c' ht (Nat.min_self n).symm 22 2 p.type Try.underlying22 Try.size1_2
  unfold Oper.wp
  rw [Nat.add_zero] at hrun
  simp [execOp, ho, resolve, invoke, builtin, hd, he, hrun, Result.andThen]

  refine hK _ _ ?_
  have hfin := h (w.setCells g off (ints n f')) ?_ (Frame.setCells hg1 hg2 _ _ _ _ (Frame.refl _ _ _)) ?_
  · exact hfin
  · have := Only.setCells (x := 0) (g := g) (off := off) (n := n) (cap := cap) (ints n f') 0 (by simp [ints]) (Only.refl _ w)
    simpa using this
  · have := hs.setInts 0 n (by omega) f' (fun j hj => ht.bd j hj)
    refine (this.congr (fun j hj => ?_))
    simp [hj]
end
end

section
open Go.RowKit Go.ChangeShapes Go.Sort
set_option linter.unusedVariables false
set_option linter.unusedSimpArgs false
set_option maxRecDepth 100000
set_option maxHeartbeats 1000000 in
theorem mul64_genC (n : Nat) (hn : n ≤ 1048576) (w : World) :
    Calls Try.prog 209 #[.int .u64 1, .int .u64 (n : Int)] w fun r w' => r = .returned (.tuple #[.int .u64 0, .int .u64 (n : Int)]) ∧ w = w' := by
  have e1 : bits BinOp.and IntKind.u64 1 4294967295 = 1 := by decide
  have e0 : bits BinOp.and IntKind.u64 0 4294967295 = 0 := by decide
  have e2 : bits BinOp.and IntKind.u64 (n : Int) 4294967295 = (n : Int) := by
    have h := bits_and_u64_nat n 4294967295 (by omega) (by omega)
    have h2 := Nat.and_two_pow_sub_one_eq_mod n 32
    rw [show 2 ^ 32 - 1 = 4294967295 by decide, Nat.mod_eq_of_lt (by omega)] at h2
    rw [h2] at h
    exact h
  have e3 : (n : Int) / 4294967296 = 0 := by omega
  have e4 : IntKind.u64.wrap (n : Int) = (n : Int) := by rw [IntKind.wrap_u64]; omega
  go_enter Try.func209, Try.ntmps209
  go_wp2
  go_ret2
  exact ⟨by first | rfl | simp, by first | rfl | trivial⟩
theorem Mul_genC (n : Nat) (hn : n ≤ 1048576) (w : World) :
    Calls Try.prog 186 #[.int .u64 1, .int .u64 (n : Int)] w fun r w' => r = .returned (.tuple #[.int .u64 0, .int .u64 (n : Int)]) ∧ w = w' := by
  go_enter Try.func186, Try.ntmps186
  go_wp2_with (go_at_call 209; refine (mul64_genC n hn _).mono ?_; rintro r w1 ⟨rfl, rfl⟩)
  go_ret2
  exact ⟨by first | rfl | simp, by first | rfl | trivial⟩
/-- The first numbers of a slice. -/
theorem Sl.firstsC {o : Bool} {w : World} {lo hi g off n cap : Nat} {f : Nat → Int} (h : Sl o w lo hi (.slice (some ⟨g, off, none⟩) n cap) n f) {k : Nat} (hk : k ≤ n) (h0 : 0 < k) : Sl o w lo hi (.slice (some ⟨g, off, none⟩) k cap) k f := by
  obtain ⟨h1, h2, h3, h4⟩ := h
  refine ⟨h1, by omega, fun j hj => h3 j (by omega), ?_⟩
  rcases h4 with ⟨h4, _⟩ | ⟨g', off', cap', hv, a1, a2, a3, a4, a5, a6⟩
  · omega
  · cases hv
    exact .inr ⟨g, off, cap, rfl, a1, a2, by omega, a4, fun j hj => a5 j (by omega), a6⟩
set_option maxRecDepth 100000 in
set_option maxHeartbeats 4000000 in
theorem Repeat_gen (c : Int) (hc : inR c) (e : Nat) (h1 : 1 ≤ e) (h2 : e ≤ 1048576) (w : World) {o : Bool} {lo hi : Nat} {v : Value} (hs : Sl o w lo hi v 1 (fun _ => c)) :
    Calls Try.prog 143 #[v, .int .i64 (e : Int)] w fun r w' => ∃ G, r = .returned (.slice (some ⟨G, 0, none⟩) e e) ∧ Sl true w' w.heap.size w'.heap.size (.slice (some ⟨G, 0, none⟩) e e) e (fun _ => c) ∧ Below w.heap.size w w' := by
  obtain ⟨g, off, cap, rfl, _⟩ := hs.at (by omega)
  have HS := Lib.hid hs
  have hss := hs.size
  have hmk := run_make_row' (P := Try.prog) 22 2 (.int .i64 0) 8 Try.underlying22 Try.info2 rfl .i64 .i64 e (by omega) (by omega)
  have q0 := Sl.made w (madeCells #[.int .i64 0] e) 2 e e (fun _ => 0) (Nat.le_refl _) (by unfold maxLen; omega) (fun j hj => by simp [inR]) (fun j hj => by simp [madeCells_at _ _ _ hj])
  have hcp := run_copy_sl (P := Try.prog) q0 0 1 (by omega) e e cap (hs.alloc _) (by simp [Nat.min_def]; omega) 22 2 3 Try.underlying22 Try.size1_2
  rw [Nat.add_zero] at hcp
  clear hs
  go_enter Try.func143, Try.ntmps143
  go_wp2_with (go_at_call 186; refine (Mul_genC e h2 _).mono ?_; rintro r w1 ⟨rfl, rfl⟩)
  have q1 := (q0.setInts 0 1 (by omega) (fun _ => c) (fun j hj => hc)).congr (f' := fun j => if j < 1 then c else 0) (fun j hj => by simp)
  have bl1 := (Frame.setCells (Nat.le_refl _) (Nat.lt_succ_self _) (ints 1 (fun _ => c)) 0 _ _ (Frame.refl w.heap.size (w.heap.size + 1) (w.alloc (.cells (madeCells #[.int .i64 0] e) 2)))).below (Nat.le_refl _) (by simp)
  have Q1 := Lib.hid q1
  have B1 := Lib.hid (((Below.refl w.heap.size w).alloc (Nat.le_refl _) (.cells (madeCells #[.int .i64 0] e) 2)).trans bl1)
  clear q0 hcp q1 bl1 hmk
  go_loopw [8] (fun s8 wr => ∃ n : Nat, 1 ≤ n ∧ n ≤ e ∧ s8 = .int .i64 (n : Int) ∧ Sl true wr w.heap.size (w.heap.size + 1) (.slice (some ⟨w.heap.size, 0, none⟩) e e) e (fun j => if j < n then c else 0) ∧ Below w.heap.size w wr) (fun s8 _ => e - (intOf s8).toNat)
  case atStart => exact ⟨1, by omega, h1, rfl, Q1.out, B1.out⟩
  case round =>
    clear Q1 B1
    obtain ⟨n, hn1, hne, rfl, hq, hbl⟩ := hrel
    have HQ := Lib.hid hq
    have HB := Lib.hid hbl
    clear hq hbl
    by_cases hlt : n < e
    · obtain ⟨m, hm⟩ : ∃ m, Nat.min n (e - n) = m := ⟨_, rfl⟩
      have hm1 : m ≤ n ∧ m ≤ e - n ∧ 1 ≤ m := by rw [← hm]; simp only [Nat.min_def]; split <;> omega
      have src := (HQ.out.drew.firstsC hne (by omega)).congr (f' := fun _ => c) (fun j hj => by rw [if_pos hj])
      have hcp := run_copy_sl (P := Try.prog) HQ.out.drew n m (by omega) (e - n) (e - n) e src hm.symm 22 2 3 Try.underlying22 Try.size1_2
      rw [Nat.zero_add] at hcp
      have q2 := (HQ.out.drew.setInts n m (by omega) (fun _ => c) (fun j hj => hc)).congr (f' := fun j => if j < n + m then c else 0) (fun j hj => by
        by_cases e1 : j < n
        · simp [e1] <;> omega
        · by_cases e2 : j < n + m
          · simp [e2] <;> omega
          · simp [e2]; omega)
      have bl2 := (Frame.setCells (Nat.le_refl _) (Nat.lt_succ_self _) (ints m (fun _ => c)) n _ _ (Frame.refl w.heap.size (w.heap.size + 1) wr.drew)).below (B := w.heap.size) (Nat.le_refl _) HB.out.drew.size
      rw [Nat.zero_add] at q2
      have Q2 := Lib.hid q2
      have B2 := Lib.hid (HB.out.drew.trans bl2)
      have hne2 : ¬ n = e := by omega
      have hsub : ((e : Int) - (n : Int)) = ((e - n : Nat) : Int) := by omega
      clear hm src q2 bl2
      go_wp2
      go_region
      go_wp2
      go_roundw
      case rel => exact ⟨n + m, by omega, by omega, by go_num, Q2.out, B2.out⟩
      case measure => simp [intOf]; omega
    · obtain rfl : n = e := by omega
      have hqs := HQ.out.size
      go_wp2
      go_ret
      exact ⟨_, rfl, (HQ.out.congr (fun j hj => by rw [if_pos hj])).wide (Nat.le_refl _) hqs (Nat.le_refl _), HB.out⟩
end

section
open Go.RowKit Go.ChangeShapes Go.Sort
set_option linter.unusedVariables false
set_option linter.unusedSimpArgs false
set_option maxRecDepth 100000

section
variable {o : Bool} {lo hi : Nat} {v : Value} {n : Nat} {f : Nat → Int}
set_option maxHeartbeats 1000000 in
theorem IndexX_first (x : Int) (w : World) (i : Nat) (hn : n ≤ 1000) (hs : Sl o w lo hi v n f) (hi' : i < n) (hx : f i = x) (hl : ∀ j, j < i → f j ≠ x) :
    Calls Try.prog 174 #[v, .int .i64 x] w fun r w' => r = .returned (.int .i64 (i : Int)) ∧ w = w' := by
  obtain ⟨a, cap, rfl⟩ := hs.shape
  have HS := Lib.hid hs
  have HL := Lib.hid hl
  have HX := Lib.hid hx
  clear hs hl hx
  go_enter Try.func174, Try.ntmps174
  go_wp2
  go_loopw [8] (fun s8 wr => ∃ k : Nat, k ≤ i ∧ s8 = .int .i64 (k : Int) ∧ wr = w) (fun s8 _ => n - (intOf s8).toNat)
  case atStart => exact ⟨0, Nat.zero_le _, rfl, rfl⟩
  case round =>
    obtain ⟨k, hk, rfl, hwr⟩ := hrel
    subst hwr
    obtain ⟨g, off, cap', hv, _, _, _, _, hc, _⟩ := HS.out.at (by omega)
    obtain ⟨rfl, rfl⟩ : a = some ⟨g, off, none⟩ ∧ cap = cap' := by cases hv; exact ⟨rfl, rfl⟩
    clear hv
    have hkn : k < n := by omega
    have hck := hc k hkn
    clear hc
    by_cases hki : k < i
    · have hxb : (x == f k) = false := beq_eq_false_iff_ne.2 (fun e => HL.out k hki e.symm)
      go_wp2
      go_roundw
      case rel => exact ⟨k + 1, by omega, by go_num, by first | rfl | trivial⟩
      case measure => simp [intOf] <;> omega
    · obtain rfl : k = i := by omega
      have hxb : (x == f k) = true := by rw [HX.out]; simp
      go_wp2
      go_ret
      exact ⟨rfl, rfl⟩
set_option maxHeartbeats 1000000 in
theorem IndexX_none (x : Int) (w : World) (hn : n ≤ 1000) (hs : Sl o w lo hi v n f) (hl : ∀ j, j < n → f j ≠ x) :
    Calls Try.prog 174 #[v, .int .i64 x] w fun r w' => r = .returned (.int .i64 (-1)) ∧ w = w' := by
  obtain ⟨a, cap, rfl⟩ := hs.shape
  have HS := Lib.hid hs
  have HL := Lib.hid hl
  clear hs hl
  go_enter Try.func174, Try.ntmps174
  go_wp2
  go_loopw [8] (fun s8 wr => ∃ k : Nat, k ≤ n ∧ s8 = .int .i64 (k : Int) ∧ wr = w) (fun s8 _ => n - (intOf s8).toNat)
  case atStart => exact ⟨0, Nat.zero_le _, rfl, rfl⟩
  case round =>
    obtain ⟨k, hk, rfl, hwr⟩ := hrel
    subst hwr
    by_cases hlt : k < n
    · obtain ⟨g, off, cap', hv, _, _, _, _, hc, _⟩ := HS.out.at (by omega)
      obtain ⟨rfl, rfl⟩ : a = some ⟨g, off, none⟩ ∧ cap = cap' := by cases hv; exact ⟨rfl, rfl⟩
      clear hv
      have hck := hc k hlt
      clear hc
      have hxb : (x == f k) = false := beq_eq_false_iff_ne.2 (fun e => HL.out k hlt e.symm)
      go_wp2
      go_roundw
      case rel => exact ⟨k + 1, by omega, by go_num, by first | rfl | trivial⟩
      case measure => simp [intOf] <;> omega
    · obtain rfl : k = n := by omega
      go_wp2
      go_ret
      exact ⟨rfl, rfl⟩
theorem Contains_yes (x : Int) (w : World) (i : Nat) (hn : n ≤ 1000) (hs : Sl o w lo hi v n f) (hi' : i < n) (hx : f i = x) (hl : ∀ j, j < i → f j ≠ x) :
    Calls Try.prog 120 #[v, .int .i64 x] w fun r w' => r = .returned (.bool true) ∧ w = w' := by
  obtain ⟨a, cap, rfl⟩ := hs.shape
  have H := Lib.hid (IndexX_first x w i hn hs hi' hx hl)
  have hge : (0 : Int) ≤ (i : Int) := by omega
  clear hs hx hl
  go_enter Try.func120, Try.ntmps120
  go_wp2_with (go_at_call 174; refine H.out.mono ?_; rintro e w' ⟨rfl, rfl⟩)
  go_ret
  exact ⟨rfl, rfl⟩
theorem Contains_no (x : Int) (w : World) (hn : n ≤ 1000) (hs : Sl o w lo hi v n f) (hl : ∀ j, j < n → f j ≠ x) :
    Calls Try.prog 120 #[v, .int .i64 x] w fun r w' => r = .returned (.bool false) ∧ w = w' := by
  obtain ⟨a, cap, rfl⟩ := hs.shape
  have H := Lib.hid (IndexX_none x w hn hs hl)
  clear hs hl
  go_enter Try.func120, Try.ntmps120
  go_wp2_with (go_at_call 174; refine H.out.mono ?_; rintro e w' ⟨rfl, rfl⟩)
  go_ret
  exact ⟨rfl, rfl⟩
end
end

section
open Go.RowKit Go.ChangeShapes Go.Sort
set_option linter.unusedVariables false
set_option linter.unusedSimpArgs false

set_option maxRecDepth 100000 in
theorem joinHalves_any (h l : Int) (w : World) (hh1 : -3000000000000000000 ≤ h) (hh2 : h ≤ 3000000000000000000) (hl1 : -3000000000000000000 ≤ l) (hl2 : l ≤ 3000000000000000000) :
    Calls Try.prog 206 #[.int .i64 h, .int .i64 l] w fun e w' => e = .returned (.int .i64 (joinZ h l)) ∧ w = w' := by
  obtain ⟨he, h1, h2⟩ := tdm l 32768 (by omega)
  by_cases hw : -1000000000 ≤ h + l.tdiv 32768 ∧ h + l.tdiv 32768 ≤ 1000000000
  · have HJ := Lib.hid (show joinZ h l = (h + l.tdiv 32768) * 32768 + l.tmod 32768 from if_pos hw)
    obtain ⟨hw1, hw2⟩ := hw
    go_enter Try.func206, Try.ntmps206
    go_wp2_with (go_at_call 107; refine (isWithin_yes _ _ _ (by omega) (by omega) (by omega) (by omega)).mono ?_; rintro e w' ⟨rfl, rfl⟩)
    go_ret
    exact ⟨by rw [HJ.out]; rfl, rfl⟩
  · have HJ := Lib.hid (show joinZ h l = 1000000001 from if_neg hw)
    have HK := Lib.hid (show h + l.tdiv 32768 < -1000000000 ∨ 1000000000 < h + l.tdiv 32768 by omega)
    clear hw
    go_enter Try.func206, Try.ntmps206
    go_wp2_with (go_at_call 107; refine (isWithin_no _ _ _ (by omega) (by omega) HK.out).mono ?_; rintro e w' ⟨rfl, rfl⟩)
    go_ret
    exact ⟨by rw [HJ.out]; rfl, rfl⟩

section
variable {o o' : Bool} {lo hi lo' hi' L : Nat} {v v' : Value} {f g : Nat → Int}
/-- The first q numbers, and zeros behind them. -/
def part1 (f : Nat → Int) (q : Nat) : Nat → Int := fun j => if j < q then f j else 0
theorem part1_succ (f : Nat → Int) (q : Nat) : part1 f (q + 1) = fun j => if j = q then f q else part1 f q j := by
  funext j; unfold part1
  by_cases e : j = q
  · subst e; simp
  · rw [if_neg e]
    by_cases e2 : j < q
    · rw [if_pos e2, if_pos (by omega)]
    · rw [if_neg e2, if_neg (by omega)]
set_option maxRecDepth 100000 in
set_option maxHeartbeats 1000000 in
theorem halvesOf_any (w : World) (hs : Sl o w lo hi v L g) (hg : Within g L 12000000000) (h0 : 0 < L) (hL : L ≤ 12) :
    Calls Try.prog 204 #[v] w fun e w' => ∃ k1 k2, e = .returned (.tuple #[.slice (some ⟨w.heap.size, 0, none⟩) L k1, .slice (some ⟨w.heap.size + 1, 0, none⟩) L k2]) ∧
      Sl true w' w.heap.size (w.heap.size + 1) (.slice (some ⟨w.heap.size, 0, none⟩) L k1) L (hiH g) ∧ Sl true w' (w.heap.size + 1) (w.heap.size + 2) (.slice (some ⟨w.heap.size + 1, 0, none⟩) L k2) L (loH g) ∧ Below w.heap.size w w' := by
  obtain ⟨a, cap, rfl⟩ := hs.shape
  have hhs := hs.size
  have HB := Lib.hid (halves_bd hg)
  have HG := Lib.hid hg
  clear hg
  have m1 := Sl.made w (madeCells #[.int .i64 0] L) 2 L L (part1 (hiH g) 0) (Nat.le_refl _) (by unfold maxLen; omega) (fun _ _ => by simp [part1, inR]) (fun j hj => madeCells_at _ _ _ hj)
  have m2 := Sl.made (w.alloc (.cells (madeCells #[.int .i64 0] L) 2)) (madeCells #[.int .i64 0] L) 2 L L (part1 (loH g) 0) (Nat.le_refl _) (by unfold maxLen; omega) (fun _ _ => by simp [part1, inR]) (fun j hj => madeCells_at _ _ _ hj)
  have st0 := (((St.start w).addSl ⟨o, lo, hi, .slice a L cap, L, g⟩ hs).alloc (.cells (madeCells #[.int .i64 0] L) 2)).alloc (.cells (madeCells #[.int .i64 0] L) 2)
  replace m1 := m1.alloc (.cells (madeCells #[.int .i64 0] L) 2)
  simp only [World.size_alloc] at m2
  have M1 := Lib.hid m1
  have M2 := Lib.hid m2
  have ST := Lib.hid st0
  clear m1 m2 st0 hs
  have hmk := run_make_row' (P := Try.prog) 22 2 (.int .i64 0) 8 Try.underlying22 Try.info2 rfl .i64 .i64 L (by omega) (by omega)
  go_enter Try.func204, Try.ntmps204
  go_wp2
  clear hmk
  go_loopw [16] (fun s16 wr => ∃ q : Nat, q ≤ L ∧ s16 = .int .i64 q ∧ Sl true wr w.heap.size (w.heap.size + 1) (.slice (some ⟨w.heap.size, 0, none⟩) L L) L (part1 (hiH g) q) ∧ Sl true wr (w.heap.size + 1) (w.heap.size + 2) (.slice (some ⟨w.heap.size + 1, 0, none⟩) L L) L (part1 (loH g) q) ∧
      St w wr [] [⟨o, lo, hi, .slice a L cap, L, g⟩]) (fun s16 _ => L - (intOf s16).toNat)
  case atStart => exact ⟨0, Nat.zero_le _, rfl, M1.out, M2.out, ST.out⟩
  case round =>
    clear M1 M2 ST
    obtain ⟨q, hq, rfl, ho1, ho2, hst⟩ := hrel
    have O1 := Lib.hid ho1; clear ho1
    have O2 := Lib.hid ho2; clear ho2
    have HT := Lib.hid hst; clear hst
    have hz1 := O1.out.size
    have hz2 := O2.out.size
    by_cases hlt : q < L
    · have qa := HT.out.sl 0 ⟨o, lo, hi, .slice a L cap, L, g⟩ rfl
      dsimp only at qa
      obtain ⟨b, off, c1, hv, _, _, _, _, hc, _⟩ := qa.at (by omega)
      obtain ⟨rfl, rfl⟩ : a = some ⟨b, off, none⟩ ∧ cap = c1 := by cases hv; exact ⟨rfl, rfl⟩
      have hck := hc q hlt
      obtain ⟨hg1, hg2⟩ := HG.out q hlt
      clear hv hc qa
      obtain ⟨he, hr1, hr2⟩ := tdm (g q) 32768 (by omega)
      have W1 := Lib.hid (part1_succ (hiH g) q)
      have W2 := Lib.hid (part1_succ (loH g) q)
      have k1 := (O1.out.known (by omega)).2.2.2.1 q (by omega)
      have z1 := (O1.out.known (by omega)).2.2.2.2 rfl q
      have k2 := (O2.out.known (by omega)).2.2.2.1 q (by omega)
      have z2 := (O2.out.known (by omega)).2.2.2.2 rfl q
      rw [Nat.zero_add] at k1 k2
      go_wp2
      go_roundw
      case rel =>
        refine ⟨q + 1, by omega, by go_num, ?_, ?_, ?_⟩
        · rw [W1.out]
          refine (((O1.out.store0 (i := q) (x := hiH g q) (by omega) (by unfold hiH inR; omega))).setOther (.inr (Nat.le_refl _)) _).congr (fun j hj => ?_)
          by_cases e : j = q
          · subst e; simp
          · simp [e]
        · rw [W2.out]
          refine ((O2.out.setOther (.inl (Nat.lt_succ_self _)) _).store0 (i := q) (x := loH g q) (by omega) (by unfold loH inR; omega)).congr (fun j hj => ?_)
          by_cases e : j = q
          · subst e; simp
          · simp [e]
        · exact HT.out.write (lo := w.heap.size) (hi := w.heap.size + 2) (((Frame.refl w.heap.size (w.heap.size + 2) wr).setCell (Nat.le_refl _) (by show w.heap.size < _; omega) _).setCell (by show w.heap.size ≤ w.heap.size + 1; omega) (by show w.heap.size + 1 < _; omega) _) (by omega) (by intro b hb; cases hb) (by intro s hs'; simp only [List.mem_cons, List.not_mem_nil, or_false] at hs'; rcases hs' with rfl <;> dsimp only <;> omega)
      case measure => simp [intOf] <;> omega
    · obtain rfl : q = L := by omega
      go_wp2
      refine bodyPost_ret (v := .tuple #[.slice (some ⟨w.heap.size, 0, none⟩) q q, .slice (some ⟨w.heap.size + 1, 0, none⟩) q q]) (by simp [results, Try.results204, go_sem]) rfl ?_
      exact ⟨q, q, rfl, O1.out.congr (fun j hj => by unfold part1; rw [if_pos hj]), O2.out.congr (fun j hj => by unfold part1; rw [if_pos hj]), HT.out.1⟩

theorem convZ_zeros {f g : Nat → Int} {L M : Nat} (hLM : L ≤ M) (hz : ∀ j, L ≤ j → j < M → g j = 0) : ∀ i, convZ f g M i = convZ f g L i
  | 0 => rfl
  | i + 1 => by
    show addRow (f i) g i M (convZ f g M i) = addRow (f i) g i L (convZ f g L i)
    rw [convZ_zeros hLM hz i]
    funext j
    unfold addRow
    by_cases h : i ≤ j ∧ j < i + L
    · rw [if_pos h, if_pos (by omega)]
    · rw [if_neg h]
      by_cases h2 : i ≤ j ∧ j < i + M
      · rw [if_pos h2, hz (j - i) (by omega) (by omega), Int.mul_zero, Int.add_zero]
      · rw [if_neg h2]

set_option maxRecDepth 100000 in
set_option maxHeartbeats 1000000 in
theorem productParts_any (n : Nat) (h1 : 1 ≤ n) (h2 : n ≤ 16) (w : World) (hs : Sl o w lo hi v L f) {M : Nat} (ht : Sl o' w lo' hi' v' M g) (hf : Within f L 12000000000) (hg : ∀ j, j < M → -400000 ≤ g j ∧ g j ≤ 400000) (hLM : L ≤ M) (hM : M ≤ 12) (hz : ∀ j, L ≤ j → j < M → g j = 0) :
    Calls Try.prog 205 #[.int .i64 (n : Int), v, v'] w fun e w' => e = .returned (arrV (cut (phiN n) (prodZ n L f g))) ∧ Below w.heap.size w w' := by
  obtain ⟨a, cap, rfl⟩ := hs.shape
  obtain ⟨a', cap', rfl⟩ := ht.shape
  have hhs := hs.size
  have hht := ht.size
  have hL : L ≤ 12 := by omega
  have hCZ := convZ_zeros (f := f) hLM hz
  have HRED := Lib.hid (show cut (phiN n) (redP n (convZ f g M L)) = cut (phiN n) (prodZ n L f g) from by
    funext j
    unfold cut
    by_cases e : j < phiN n
    · rw [if_pos e, if_pos e, hCZ]; exact redP_conv (by omega) h1 hf (fun j hj => hg j (by omega)) hL e
    · rw [if_neg e, if_neg e])
  have HCB := Lib.hid (fun i (hi : i ≤ L) j => (by rw [hCZ i]; exact convZ_bd12 (by omega : (0 : Int) ≤ 400000) hf (fun j hj => hg j (by omega)) hL i hi j : -(12 * (12000000000 * 400000)) ≤ convZ f g M i j ∧ convZ f g M i j ≤ 12 * (12000000000 * 400000)))
  have HG := Lib.hid hg
  have HF := Lib.hid hf
  clear hf hg hz hCZ
  have st0 := (((((St.start w).addSl ⟨o, lo, hi, .slice a L cap, L, f⟩ hs).addSl ⟨o', lo', hi', .slice a' M cap', M, g⟩ ht).alloc (.cells (arrC (fun _ => 0)) 136)).addBox w.heap.size [.int .i64 0, .int .i64 0, .int .i64 0, .int .i64 0, .int .i64 0, .int .i64 0, .int .i64 0, .int .i64 0, .int .i64 0, .int .i64 0, .int .i64 0, .int .i64 0] (Box.made _ _ _ _ (fun j v h => by simpa [arrC] using h))).alloc (.cells (madeCells #[.int .i64 0] 24) 2)
  have hs24 := Sl.made24 (w.alloc (.cells (arrC (fun _ => 0)) 136))
  simp only [World.size_alloc] at hs24
  have HS24 := Lib.hid hs24
  have HST0 := Lib.hid st0
  clear hs24 st0 hs ht
  unfold arrC at HS24 HST0
  have hmk := make24
  go_enter Try.func205, Try.ntmps205
  go_wp2
  clear hmk
  go_loopw [15] (fun s15 wr => ∃ i : Nat, i ≤ L ∧ s15 = .int .i64 i ∧ Sl true wr (w.heap.size + 1) (w.heap.size + 2) (.slice (some ⟨w.heap.size + 1, 0, none⟩) 24 24) 24 (convZ f g M i) ∧
      St w wr [(w.heap.size, [.int .i64 0, .int .i64 0, .int .i64 0, .int .i64 0, .int .i64 0, .int .i64 0, .int .i64 0, .int .i64 0, .int .i64 0, .int .i64 0, .int .i64 0, .int .i64 0])] [⟨o', lo', hi', .slice a' M cap', M, g⟩, ⟨o, lo, hi, .slice a L cap, L, f⟩]) (fun s15 _ => L - (intOf s15).toNat)
  case atStart => exact ⟨0, Nat.zero_le _, rfl, HS24.out, HST0.out⟩
  case round =>
    clear HS24 HST0
    obtain ⟨i, hiL, rfl, hown, hst⟩ := hrel
    have HO0 := Lib.hid hown; clear hown
    have HT0 := Lib.hid hst; clear hst
    by_cases hlt : i < L
    · have qa := HT0.out.sl 1 ⟨o, lo, hi, .slice a L cap, L, f⟩ rfl
      dsimp only at qa
      obtain ⟨b, off, c1, hv, _, _, _, _, hc, _⟩ := qa.at (by omega)
      obtain ⟨rfl, rfl⟩ : a = some ⟨b, off, none⟩ ∧ cap = c1 := by cases hv; exact ⟨rfl, rfl⟩
      have hck := hc i hlt
      clear hv hc qa
      obtain ⟨hf1, hf2⟩ := HF.out i hlt
      obtain ⟨wi, hwi⟩ : ∃ x : World, x = wr := ⟨_, rfl⟩
      subst hwi
      go_wp2
      clear hck
      go_loopw [22] (fun s22 wr => ∃ m : Nat, m ≤ M ∧ s22 = .int .i64 m ∧ Sl true wr (w.heap.size + 1) (w.heap.size + 2) (.slice (some ⟨w.heap.size + 1, 0, none⟩) 24 24) 24 (addRow (f i) g i m (convZ f g M i)) ∧
          St w wr [(w.heap.size, [.int .i64 0, .int .i64 0, .int .i64 0, .int .i64 0, .int .i64 0, .int .i64 0, .int .i64 0, .int .i64 0, .int .i64 0, .int .i64 0, .int .i64 0, .int .i64 0])] [⟨o', lo', hi', .slice a' M cap', M, g⟩, ⟨o, lo, hi, .slice (some ⟨b, off, none⟩) L cap, L, f⟩]) (fun s22 _ => M - (intOf s22).toNat)
      case atStart => exact ⟨0, Nat.zero_le _, rfl, by rw [addRow_zero]; exact HO0.out, HT0.out⟩
      case round =>
        clear HO0 HT0
        obtain ⟨m, hm, rfl, hown, hst⟩ := hrel
        have HO := Lib.hid hown; clear hown
        have HT := Lib.hid hst; clear hst
        by_cases hlt2 : m < M
        · have qb := HT.out.sl 0 ⟨o', lo', hi', .slice a' M cap', M, g⟩ rfl
          dsimp only at qb
          obtain ⟨b', off', c2, hv2, _, _, _, _, hc2, _⟩ := qb.at (by omega)
          obtain ⟨rfl, rfl⟩ : a' = some ⟨b', off', none⟩ ∧ cap' = c2 := by cases hv2; exact ⟨rfl, rfl⟩
          have hck2 := hc2 m hlt2
          clear hv2 hc2 qb
          obtain ⟨hg1, hg2⟩ := HG.out m hlt2
          obtain ⟨hp1, hp2⟩ := mul_abs (B := 400000) (by omega) hf1 hf2 hg1 hg2
          obtain ⟨hu1, hu2⟩ := HCB.out i hiL (i + m)
          have HW := Lib.hid (addRow_succ (f i) g i m (convZ f g M i))
          have hck3 := (HO.out.known (by omega)).2.2.2.1 (i + m) (by omega)
          have hfr := (HO.out.known (by omega)).2.2.2.2 rfl (i + m)
          rw [Nat.zero_add, addRow_at] at hck3
          go_wp2
          go_roundw
          case rel =>
            refine ⟨m + 1, by omega, by go_num, ?_, ?_⟩
            · rw [HW.out]
              refine (HO.out.store0 (i := i + m) (by omega) (by unfold inR; omega)).congr (fun j hj => ?_)
              by_cases e : j = i + m
              · subst e; simp
              · simp [e]
            · exact HT.out.write (lo := w.heap.size + 1) (hi := w.heap.size + 2) ((Frame.refl (w.heap.size + 1) (w.heap.size + 2) wr).setCell (Nat.le_refl _) (Nat.lt_succ_self _) _) (by omega) (by intro b hb; simp only [List.mem_cons, List.not_mem_nil, or_false] at hb; rcases hb with rfl <;> dsimp only <;> omega) (by intro s hs'; simp only [List.mem_cons, List.not_mem_nil, or_false] at hs'; rcases hs' with rfl | rfl <;> dsimp only <;> omega)
          case measure => simp [intOf] <;> omega
        · obtain rfl : m = M := by omega
          go_wp2
          go_roundw
          case rel => exact ⟨i + 1, by omega, by go_num, HO.out, HT.out⟩
          case measure => simp [intOf] <;> omega
    · obtain rfl : i = L := by omega
      go_wp2_with fail
      refine (reducedParts_any n h1 h2 _ HO0.out).mono ?_
      rintro e w2 ⟨rfl, f2⟩
      have st2 := HT0.out.write f2 (by omega) (by intro b hb; simp only [List.mem_cons, List.not_mem_nil, or_false] at hb; rcases hb with rfl <;> dsimp only <;> omega) (by intro s hs'; simp only [List.mem_cons, List.not_mem_nil, or_false] at hs'; rcases hs' with rfl | rfl <;> dsimp only <;> omega)
      have bx := st2.box 0 _ rfl
      have B2 := st2.1
      dsimp only at bx
      have e0 := bx.2.1 0 _ rfl
      have e1 := bx.2.1 1 _ rfl
      have e2 := bx.2.1 2 _ rfl
      have e3 := bx.2.1 3 _ rfl
      have e4 := bx.2.1 4 _ rfl
      have e5 := bx.2.1 5 _ rfl
      have e6 := bx.2.1 6 _ rfl
      have e7 := bx.2.1 7 _ rfl
      have e8 := bx.2.1 8 _ rfl
      have e9 := bx.2.1 9 _ rfl
      have e10 := bx.2.1 10 _ rfl
      have e11 := bx.2.1 11 _ rfl
      have hfz := bx.2.2
      have hlz := bx.1
      clear st2 f2 bx
      rw [HRED.out]
      generalize hcc : cut (phiN n) (prodZ n i f g) = cc
      have HCC := Lib.hid hcc
      clear hcc
      unfold arrV
      go_wp2
      refine bodyPost_ret (v := arrV cc) (by simp [results, Try.results205, go_sem, arrV, e0, e1, e2, e3, e4, e5, e6, e7, e8, e9, e10, e11]) rfl ?_
      exact ⟨by rw [HCC.out], by go_grown⟩
end
end

section
open Go.RowKit Go.ChangeShapes Go.Sort
set_option linter.unusedVariables false
set_option linter.unusedSimpArgs false

/-- The list of the sum, as far as m places have been added. -/
def addQ (k : Int) (f g : Nat → Int) (m : Nat) : Nat → Int := fun j => if j < m then addF k f g j else f j
theorem addQ_succ (k : Int) (f g : Nat → Int) (m : Nat) : addQ k f g (m + 1) = fun j => if j = m then f m + k * g m else addQ k f g m j := by
  funext j
  unfold addQ addF
  by_cases e : j = m
  · subst e; simp
  · rw [if_neg e]
    by_cases e2 : j < m
    · rw [if_pos e2, if_pos (by omega)]
    · rw [if_neg e2, if_neg (by omega)]

theorem cell_set2 {w : World} {b g i j k : Nat} {u v x : Value} (h : w.cell? ⟨g, k, none⟩ = some x) (hb : g ≠ b) : ((w.setCell ⟨b, i, none⟩ u).setCell ⟨b, j, none⟩ v).cell? ⟨g, k, none⟩ = some x :=
  (World.cell?_setCell_other _ _ _ _ (fun e => hb (by injection e with e1; exact e1.symm))).trans ((World.cell?_setCell_other _ _ _ _ (fun e => hb (by injection e with e1; exact e1.symm))).trans h)
theorem Box.set2 {w : World} {b : Nat} {v0 v1 u0 u1 : Value} (h : Box w b [v0, v1]) : Box ((w.setCell ⟨b, 0, none⟩ u0).setCell ⟨b, 1, none⟩ u1) b [u0, u1] := by
  obtain ⟨h1, h2, h3⟩ := h
  have c0 := h2 0 _ rfl
  have c1 := h2 1 _ rfl
  refine ⟨by simpa using h1, ?_, ?_⟩
  · intro j v hj
    rcases j with _ | _ | j
    · simp only [List.getElem?_cons_zero, Option.some.injEq] at hj
      subst hj
      rw [setCell_ne _ _ _ _ _ (by decide)]
      exact World.cell?_setCell_same _ _ _ c0
    · simp only [List.getElem?_cons_succ, List.getElem?_cons_zero, Option.some.injEq] at hj
      subst hj
      exact World.cell?_setCell_same _ _ _ (by rw [setCell_ne _ _ _ _ _ (by decide)]; exact c1)
    · simp at hj
  · intro j
    simpa using h3 j

theorem St.tail {W w : World} {bs : List (Nat × List Value)} {ss : List SlF} {s : SlF} (h : St W w bs (s :: ss)) : St W w bs ss := ⟨h.1, h.2.1, fun x hx => h.2.2 x (List.mem_cons_of_mem _ hx)⟩
theorem St.boxNew {W w : World} {bs : List (Nat × List Value)} {ss : List SlF} (h : St W w bs ss) (v0 v1 : Value) (t : TypeId) : St W (w.alloc (.cells #[v0, v1] t)) ((w.heap.size, [v0, v1]) :: bs) ss :=
  (h.alloc _).addBox _ _ (Box.made _ _ _ _ (fun j v h => by simpa using h))
theorem St.boxSet {W w : World} {bs : List (Nat × List Value)} {ss : List SlF} {b : Nat} {v0 v1 u0 u1 : Value} (h : St W w ((b, [v0, v1]) :: bs) ss) (hb : W.heap.size ≤ b) (hbs : ∀ x ∈ bs, x.1 < b ∨ b + 1 ≤ x.1) (hss : ∀ s ∈ ss, s.hi ≤ b ∨ b + 1 ≤ s.lo) :
    St W ((w.setCell ⟨b, 0, none⟩ u0).setCell ⟨b, 1, none⟩ u1) ((b, [u0, u1]) :: bs) ss := by
  have hbx := (h.box 0 _ rfl).set2 (u0 := u0) (u1 := u1)
  have h2 : St W w bs ss := ⟨h.1, fun x hx => h.2.1 x (List.mem_cons_of_mem _ hx), h.2.2⟩
  exact (h2.write (lo := b) (hi := b + 1) (((Frame.refl b (b + 1) w).setCell (Nat.le_refl _) (Nat.lt_succ_self _) _).setCell (Nat.le_refl _) (Nat.lt_succ_self _) _) hb hbs hss).addBox _ _ hbx

section
variable {o o' : Bool} {lo hi lo' hi' L : Nat} {v v' : Value} {f g : Nat → Int}
set_option maxRecDepth 100000 in
set_option maxHeartbeats 1000000 in
theorem l01Plus_any (x k : Int) (w : World) (hs : Sl o w lo hi v L f) (ht : Sl o' w lo' hi' v' L g) (hk1 : -1000 ≤ k) (hk2 : k ≤ 1000) (hf : Within f L 1000000000) (hg : Within g L 1000000000) (hL : L ≤ 24) :
    Calls Try.prog 145 #[.agg #[.int .i64 x, v], .agg #[.int .i64 x, v'], .int .i64 k] w fun e w' => ∃ a' cap', e = .returned (.agg #[.int .i64 x, .slice a' L cap']) ∧ Sl true w' w.heap.size w'.heap.size (.slice a' L cap') L (addF k f g) ∧ Below w.heap.size w w' := by
  have hhs := hs.size
  have hht := ht.size
  obtain ⟨a, cap, rfl⟩ := hs.shape
  obtain ⟨a', cap', rfl⟩ := ht.shape
  have st0 := (((((St.start w).addSl ⟨o, lo, hi, .slice a L cap, L, f⟩ hs).addSl ⟨o', lo', hi', .slice a' L cap', L, g⟩ ht).alloc (.cells #[.int .i64 x, .slice a L cap] 24)).addBox w.heap.size [.int .i64 x, .slice a L cap] (Box.made _ _ _ _ (fun j v h => by simpa using h)))
  replace st0 := (st0.alloc (.cells #[.int .i64 x, .slice a' L cap'] 24)).addBox _ [.int .i64 x, .slice a' L cap'] (Box.made _ _ _ _ (fun j v h => by simpa using h))
  replace st0 := (st0.alloc (.cells #[.int .i64 0, .slice none 0 0] 24)).addBox _ [.int .i64 0, .slice none 0 0] (Box.made _ _ _ _ (fun j v h => by simpa using h))
  simp only [World.size_alloc] at st0
  clear hs ht
  have HF := Lib.hid hf
  have HG := Lib.hid hg
  clear hf hg
  obtain ⟨x0, x1⟩ := (st0.box 2 (w.heap.size, [.int .i64 x, .slice a L cap]) rfl).cell2
  go_enter Try.func145, Try.ntmps145
  go_wp2
  go_cut [7] (fun s7 wx => ∃ b lo1 hi1 a1 k1, s7 = .pointer (some ⟨b, 0, none⟩) ∧ Sl true wx lo1 hi1 (.slice a1 L k1) L f ∧ (b < lo1 ∨ hi1 ≤ b) ∧ w.heap.size + 1 + 1 + 1 ≤ lo1 ∧ w.heap.size + 1 + 1 + 1 ≤ b ∧ b < wx.heap.size ∧
    St w wx ((b, [.int .i64 x, .slice a1 L k1]) :: [(w.heap.size + 1 + 1, [.int .i64 0, .slice none 0 0]), (w.heap.size + 1, [.int .i64 x, .slice a' L cap']), (w.heap.size, [.int .i64 x, .slice a L cap])]) [⟨o', lo', hi', .slice a' L cap', L, g⟩, ⟨o, lo, hi, .slice a L cap, L, f⟩])
  case first =>
    go_region_held3 (fun w' => w'.cell? ⟨w.heap.size, 0, none⟩ = some (.int .i64 x) ∧ w'.cell? ⟨w.heap.size, 1, none⟩ = some (.slice a L cap))
      (first | exact ⟨x0, x1⟩ | exact ⟨cell_later b6 x0, cell_later b6 x1⟩ | exact ⟨cell_later ((Below.refl _ _).alloc (Nat.le_refl _) _) (cell_later b6 x0), cell_later ((Below.refl _ _).alloc (Nat.le_refl _) _) (cell_later b6 x1)⟩ | exact ⟨cell_later ((Below.refl _ _).alloc (Nat.le_refl _) _) x0, cell_later ((Below.refl _ _).alloc (Nat.le_refl _) _) x1⟩ | exact ⟨cell_later b6 (cell_later (((Below.refl _ _).alloc (Nat.le_refl _) _).drew) x0), cell_later b6 (cell_later (((Below.refl _ _).alloc (Nat.le_refl _) _).drew) x1)⟩ | exact ⟨cell_set2 (cell_later b6 (cell_later (((Below.refl _ _).alloc (Nat.le_refl _) _).drew) x0)) (by omega), cell_set2 (cell_later b6 (cell_later (((Below.refl _ _).alloc (Nat.le_refl _) _).drew) x1)) (by omega)⟩ | go_keep)
      (first
        | (go_at_call 187; refine (l01Own_any _ (by first | exact st0.drew.sl 1 ⟨o, lo, hi, .slice a L cap, L, f⟩ rfl | exact ((st0.alloc _).drew).sl 1 ⟨o, lo, hi, .slice a L cap, L, f⟩ rfl) (Nat.le_trans hL (by decide))).mono ?_; rintro e w6 ⟨a6, k6, rfl, s6, b6⟩
           try (have stb := ((st0.alloc (.cells #[.int .i64 0, .slice none 0 0] 24)).addBox _ [.int .i64 0, .slice none 0 0] (Box.made _ _ _ _ (fun j v h => by simpa using h))).drew.keep b6
                obtain ⟨o0, o1⟩ := (stb.box 0 _ rfl).cell2
                have oz := (stb.box 0 _ rfl).2.2
                dsimp only at oz
                simp only [World.size_alloc] at o0 o1 oz)))
    all_goals
      go_wp2_with fail
      go_meet
      have hz6 := b6.size
      simp only [World.size_drew, World.size_alloc] at hz6 s6
      first
        | exact ⟨w6.heap.size, _, _, a6, k6, rfl, s6.alloc _, .inr (Nat.le_refl _), Nat.le_refl _, by omega, by simp, (st0.drew.keep b6).boxNew _ _ _⟩
        | (have stb := ((st0.boxNew (.int .i64 0) (.slice none 0 0) 24).drew.keep b6).boxSet (u0 := .int .i64 x) (u1 := .slice a6 L k6) (by simp only [World.size_alloc]; omega)
             (by simp only [World.size_alloc]; intro b hb; simp only [List.mem_cons, List.not_mem_nil, or_false] at hb; rcases hb with rfl | rfl | rfl <;> dsimp only <;> omega)
             (by simp only [World.size_alloc]; intro s hs'; simp only [List.mem_cons, List.not_mem_nil, or_false] at hs'; rcases hs' with rfl | rfl <;> dsimp only <;> omega)
           simp only [World.size_alloc] at stb
           exact ⟨_, _, _, a6, k6, rfl, (s6.setOther (.inl (Nat.lt_succ_self _)) _).setOther (.inl (Nat.lt_succ_self _)) _, .inl (Nat.lt_succ_self _), by omega, Nat.le_refl _, by simp only [World.size_setCell]; omega, stb⟩)
  case rest =>
    obtain ⟨b, lo1, hi1, a1, k1, rfl, hown, hd, hb1, hb2, hb3, hst⟩ := hcut
    have HO0 := Lib.hid hown
    have HT0 := Lib.hid hst
    clear hown hst x0 x1 st0
    go_wp2
    go_loopw [8] (fun s8 wr => ∃ q : Nat, q ≤ L ∧ s8 = .int .i64 q ∧ Sl true wr lo1 hi1 (.slice a1 L k1) L (addQ k f g q) ∧
      St w wr ((b, [.int .i64 x, .slice a1 L k1]) :: [(w.heap.size + 1 + 1, [.int .i64 0, .slice none 0 0]), (w.heap.size + 1, [.int .i64 x, .slice a' L cap']), (w.heap.size, [.int .i64 x, .slice a L cap])]) [⟨o', lo', hi', .slice a' L cap', L, g⟩, ⟨o, lo, hi, .slice a L cap, L, f⟩]) (fun s8 _ => L - (intOf s8).toNat)
    case atStart => exact ⟨0, Nat.zero_le _, rfl, HO0.out, HT0.out⟩
    case round =>
      clear HO0 HT0
      obtain ⟨q, hq, rfl, hown, hst⟩ := hrel
      have HO := Lib.hid hown; clear hown
      have HT := Lib.hid hst; clear hst
      obtain ⟨y0, y1⟩ := (HT.out.box 2 (w.heap.size + 1, [.int .i64 x, .slice a' L cap']) rfl).cell2
      obtain ⟨p0, p1⟩ := (HT.out.box 0 (b, [.int .i64 x, .slice a1 L k1]) rfl).cell2
      have hz := HO.out.size
      by_cases hlt : q < L
      · have qa := HT.out.sl 0 ⟨o', lo', hi', .slice a' L cap', L, g⟩ rfl
        dsimp only at qa
        obtain ⟨bb, off, c1, hv, _, _, _, _, hc, _⟩ := qa.at (by omega)
        obtain ⟨rfl, rfl⟩ : a' = some ⟨bb, off, none⟩ ∧ cap' = c1 := by cases hv; exact ⟨rfl, rfl⟩
        have hck := hc q hlt
        obtain ⟨hg1, hg2⟩ := HG.out q hlt
        obtain ⟨hf1, hf2⟩ := HF.out q hlt
        clear hv hc qa
        obtain ⟨hm1, hm2⟩ := mul_part hk1 hk2 hg1 hg2
        have HW2 := Lib.hid (addQ_succ k f g q)
        obtain ⟨b2, off2, c2, hv2, _⟩ := HO.out.at (by omega)
        obtain ⟨rfl, rfl⟩ : a1 = some ⟨b2, off2, none⟩ ∧ k1 = c2 := by cases hv2; exact ⟨rfl, rfl⟩
        clear hv2
        obtain ⟨hbl, hbh, _, hc2, hfz⟩ := HO.out.known (by omega)
        have hck2 := hc2 q hlt
        rw [show addQ k f g q q = f q from by unfold addQ; rw [if_neg (Nat.lt_irrefl _)]] at hck2
        have hfr := hfz rfl (off2 + q)
        clear hc2 hfz
        have hlt3 : (q : Int) < L := by omega
        have hwm : IntKind.i64.wrap (k * g q) = k * g q := IntWalk.i64_in _ (by omega)
        have hws : IntKind.i64.wrap (f q + k * g q) = f q + k * g q := IntWalk.i64_in _ (by omega)
        go_wp2
        go_region
        all_goals
          go_wp2
          go_roundw
          case rel =>
            refine ⟨q + 1, by omega, by go_num, ?_, ?_⟩
            · rw [HW2.out]
              refine ((HO.out.store (i := q) (by omega) (by unfold inR; omega))).drew.congr (fun j hj => ?_)
              by_cases e : j = q
              · subst e; simp
              · simp [e]
            · exact (HT.out.write (lo := lo1) (hi := hi1) ((Frame.refl lo1 hi1 wr).setCell hbl hbh _) (by omega) (by intro b hb; simp only [List.mem_cons, List.not_mem_nil, or_false] at hb; rcases hb with rfl | rfl | rfl | rfl <;> dsimp only <;> omega) (by intro s hs'; simp only [List.mem_cons, List.not_mem_nil, or_false] at hs'; rcases hs' with rfl | rfl <;> dsimp only <;> omega)).drew
          case measure => simp [intOf] <;> omega
      · obtain rfl : q = L := by omega
        obtain ⟨d0, d1⟩ := (HT.out.box 1 (w.heap.size + 1 + 1, [.int .i64 0, .slice none 0 0]) rfl).cell2
        have dz := (HT.out.box 1 (w.heap.size + 1 + 1, [.int .i64 0, .slice none 0 0]) rfl).2.2
        have BB := HT.out.1
        dsimp only at dz
        go_wp2
        refine bodyPost_ret (v := .agg #[.int .i64 x, .slice a1 q k1]) (by simp [results, Try.results145, go_sem, d0, d1]) rfl ?_
        refine ⟨_, _, rfl, ?_, by go_grown⟩
        exact (((HO.out.setOther (.inl (by show w.heap.size + 1 + 1 < _; omega)) _).setOther (.inl (by show w.heap.size + 1 + 1 < _; omega)) _).wide (by omega) (by simp; omega) (Nat.le_refl _)).congr (fun j hj => by unfold addQ; rw [if_pos hj])
end
end

section
open Go.RowKit Go.ChangeShapes Go.Sort
set_option linter.unusedVariables false
set_option linter.unusedSimpArgs false

theorem cell_set1 {w : World} {b g i k : Nat} {u x : Value} (h : w.cell? ⟨g, k, none⟩ = some x) (hb : g ≠ b) : (w.setCell ⟨b, i, none⟩ u).cell? ⟨g, k, none⟩ = some x :=
  (World.cell?_setCell_other _ _ _ _ (fun e => hb (by injection e with e1; exact e1.symm))).trans h

section
variable {o o' : Bool} {lo hi lo' hi' n m : Nat} {v v' : Value} {f g : Nat → Int}
set_option maxRecDepth 100000 in
set_option maxHeartbeats 1000000 in
theorem productWithin_ok (n : Nat) (hn1 : 1 ≤ n) (hn2 : n ≤ 16) {L M : Nat} (w : World) (hs : Sl o w lo hi v L f) (ht : Sl o' w lo' hi' v' M g) (hf : Within f L 12000000000) (hg : Within g M 12000000000) (hL0 : 0 < L) (hLM : L ≤ M) (hM : M ≤ 12) (hz : ∀ j, L ≤ j → j < M → g j = 0) (hw : Within (prodZ n L f g) (phiN n) 1000000000) :
    Calls Try.prog 179 #[.int .i64 (n : Int), v, v'] w fun e w' => ∃ a' cap', e = .returned (.tuple #[.agg #[.int .i64 (n : Int), .slice a' (phiN n) cap'], .int .i64 0]) ∧ Sl true w' w.heap.size w'.heap.size (.slice a' (phiN n) cap') (phiN n) (prodZ n L f g) ∧ Below w.heap.size w w' := by
  have hp := phi_le12 n hn2 hn1
  have hL : L ≤ 12 := by omega
  have hM0 : 0 < M := by omega
  have HW := Lib.hid ((joinP_within hp).2 hw)
  have HPE := Lib.hid (joinP_eq hw)
  have HHB := Lib.hid (fun j (hj : j < M) => (halves_bd hg j hj).1)
  have HLB := Lib.hid (fun j (hj : j < M) => (halves_bd hg j hj).2.1)
  have HPH := Lib.hid (cut_bd (n := phiN n) (f := prodZ n L f (hiH g)) (C := 2764800000000000000) (by omega) (fun j hj => by have := prodZ_bd (by omega) hn1 (by omega : (0 : Int) ≤ 400000) hf (fun j hj => HHB.out j (by omega)) hL hj; omega))
  have HPL := Lib.hid (cut_bd (n := phiN n) (f := prodZ n L f (loH g)) (C := 2764800000000000000) (by omega) (fun j hj => by have := prodZ_bd (by omega) hn1 (by omega : (0 : Int) ≤ 400000) hf (fun j hj => HLB.out j (by omega)) hL hj; omega))
  have HZH := Lib.hid (show ∀ j, L ≤ j → j < M → hiH g j = 0 from fun j h1 h2 => by unfold hiH; rw [hz j h1 h2]; rfl)
  have HZL := Lib.hid (show ∀ j, L ≤ j → j < M → loH g j = 0 from fun j h1 h2 => by unfold loH; rw [hz j h1 h2]; rfl)
  have HF := Lib.hid hf
  have HG := Lib.hid hg
  have HR := Lib.hid (fun j (hj : j < 12) => show inR (joinP n L f g j) from by
    have h3 := HPL.out j
    have := joinZ_inR (h := cut (phiN n) (prodZ n L f (hiH g)) j) (l := cut (phiN n) (prodZ n L f (loH g)) j) (by omega) (by omega)
    unfold inR joinP; omega)
  clear hw hf hg hz
  have hhs := hs.size
  have hht := ht.size
  obtain ⟨a, cap, rfl⟩ := hs.shape
  obtain ⟨a', cap', rfl⟩ := ht.shape
  have st0 := (((St.start w).addSl ⟨o, lo, hi, .slice a L cap, L, f⟩ hs).addSl ⟨o', lo', hi', .slice a' M cap', M, g⟩ ht).boxNew (.int .i64 0) (.slice none 0 0) 24
  have q1 := st0.sl 0 ⟨o', lo', hi', .slice a' M cap', M, g⟩ rfl
  dsimp only at q1
  clear hs ht
  go_enter Try.func179, Try.ntmps179
  go_wp2_with fail
  refine (halvesOf_any _ q1 HG.out hM0 hM).mono ?_
  rintro e w2 ⟨kh, kl, rfl, sh, sl, b2⟩
  clear q1
  have st2 := st0.keep b2
  have hz2 := b2.size
  simp only [World.size_alloc] at hz2
  have hz2' := sl.size
  simp only [World.size_alloc] at sh sl hz2'
  have SH := Lib.hid sh
  have SLo := Lib.hid sl
  clear st0 b2 sh sl
  have q0 := st2.sl 1 ⟨o, lo, hi, .slice a L cap, L, f⟩ rfl
  dsimp only at q0
  go_wp2_with fail
  refine (productParts_any n hn1 hn2 _ q0 SH.out HF.out HHB.out hLM hM HZH.out).mono ?_
  rintro e w3 ⟨rfl, b3⟩
  clear q0
  have SL3 := Lib.hid ((SLo.out.keep b3 hz2').alloc (.cells (arrC (cut (phiN n) (prodZ n L f (hiH g)))) 136))
  have st3 := ((st2.keep b3).alloc (.cells (arrC (cut (phiN n) (prodZ n L f (hiH g)))) 136)).addSl ⟨true, w3.heap.size, w3.heap.size + 1, .slice (some ⟨w3.heap.size, 0, none⟩) 12 12, 12, cut (phiN n) (prodZ n L f (hiH g))⟩ (Sl.arr w3 _ _ (fun j _ => by have := HPH.out j; unfold inR; omega))
  have hz3 := b3.size
  clear st2 b3 SH SLo
  have q0 := st3.sl 2 ⟨o, lo, hi, .slice a L cap, L, f⟩ rfl
  dsimp only at q0
  unfold arrC at st3 q0 SL3
  unfold arrV
  go_wp2_with fail
  refine (productParts_any n hn1 hn2 _ q0 SL3.out HF.out HLB.out hLM hM HZL.out).mono ?_
  rintro e w4 ⟨rfl, b4⟩
  clear q0
  have hz4 := b4.size
  simp only [World.size_alloc] at hz4
  have st4 := ((st3.keep b4).alloc (.cells (arrC (cut (phiN n) (prodZ n L f (loH g)))) 136)).addSl ⟨true, w4.heap.size, w4.heap.size + 1, .slice (some ⟨w4.heap.size, 0, none⟩) 12 12, 12, cut (phiN n) (prodZ n L f (loH g))⟩ (Sl.arr w4 _ _ (fun j _ => by have := HPL.out j; unfold inR; omega))
  clear st3 b4 SL3
  have hpr := (Sl.arr (w4.alloc (.cells (arrC (cut (phiN n) (prodZ n L f (loH g)))) 136)) (fun _ => 0) 136 (fun j _ => by unfold inR; omega)).congr (f' := part1 (joinP n L f g) 0) (fun j hj => by unfold part1; rw [if_neg (Nat.not_lt_zero _)])
  have st5 := st4.alloc (.cells (arrC (fun _ => 0)) 136)
  simp only [World.size_alloc] at hpr
  clear st4
  unfold arrC at hpr st5
  have HPR := Lib.hid hpr
  have ST5 := Lib.hid st5
  clear hpr st5
  unfold arrV
  go_wp2
  go_loopw [27] (fun s38 wr => ∃ q : Nat, q ≤ 12 ∧ s38 = .int .i64 q ∧ Sl true wr (w4.heap.size + 1) (w4.heap.size + 1 + 1) (.slice (some ⟨w4.heap.size + 1, 0, none⟩) 12 12) 12 (part1 (joinP n L f g) q) ∧
      St w wr [(w.heap.size, [.int .i64 0, .slice none 0 0])] [⟨true, w4.heap.size, w4.heap.size + 1, .slice (some ⟨w4.heap.size, 0, none⟩) 12 12, 12, cut (phiN n) (prodZ n L f (loH g))⟩, ⟨true, w3.heap.size, w3.heap.size + 1, .slice (some ⟨w3.heap.size, 0, none⟩) 12 12, 12, cut (phiN n) (prodZ n L f (hiH g))⟩, ⟨o', lo', hi', .slice a' M cap', M, g⟩, ⟨o, lo, hi, .slice a L cap, L, f⟩]) (fun s38 _ => 12 - (intOf s38).toNat)
  case atStart => exact ⟨0, Nat.zero_le _, rfl, HPR.out, ST5.out⟩
  case round =>
    clear HPR ST5
    obtain ⟨q, hq, rfl, hown, hst⟩ := hrel
    have HO := Lib.hid hown; clear hown
    have HT := Lib.hid hst; clear hst
    by_cases hlt : q < 12
    · have k1 := ((HT.out.sl 1 ⟨true, w3.heap.size, w3.heap.size + 1, .slice (some ⟨w3.heap.size, 0, none⟩) 12 12, 12, cut (phiN n) (prodZ n L f (hiH g))⟩ rfl).known (by show 0 < 12; omega)).2.2.2.1 q hlt
      have k2 := ((HT.out.sl 0 ⟨true, w4.heap.size, w4.heap.size + 1, .slice (some ⟨w4.heap.size, 0, none⟩) 12 12, 12, cut (phiN n) (prodZ n L f (loH g))⟩ rfl).known (by show 0 < 12; omega)).2.2.2.1 q hlt
      dsimp only at k1 k2
      rw [Nat.zero_add] at k1 k2
      obtain ⟨hh1, hh2⟩ := HPH.out q
      obtain ⟨hl1, hl2⟩ := HPL.out q
      have W1 := Lib.hid (part1_succ (joinP n L f g) q)
      have HRq := Lib.hid (HR.out q hlt)
      have k3 := (HO.out.known (by omega)).2.2.2.1 q (by omega)
      have z3 := (HO.out.known (by omega)).2.2.2.2 rfl q
      rw [Nat.zero_add] at k3
      have HJ := Lib.hid (show joinZ (cut (phiN n) (prodZ n L f (hiH g)) q) (cut (phiN n) (prodZ n L f (loH g)) q) = joinP n L f g q from rfl)
      generalize cut (phiN n) (prodZ n L f (hiH g)) q = u1 at *
      generalize cut (phiN n) (prodZ n L f (loH g)) q = u2 at *
      have hq12 : (q : Int) < 12 := by omega
      go_wp2
      go_region_held3 (fun w' => w'.cell? ⟨w3.heap.size, q, none⟩ = some (.int .i64 u1) ∧ w'.cell? ⟨w4.heap.size, q, none⟩ = some (.int .i64 u2))
        (first | exact ⟨k1, k2⟩ | exact ⟨cell_set1 k1 (by omega), cell_set1 k2 (by omega)⟩ | go_keep)
        (first | (go_at_call 206; refine (joinHalves_any _ _ _ (by omega) (by omega) (by omega) (by omega)).mono ?_; rw [HJ.out]; rintro e w6 ⟨rfl, rfl⟩))
      all_goals
        go_wp2
        go_roundw
        case rel =>
          refine ⟨q + 1, by omega, by go_num, ?_, ?_⟩
          · rw [W1.out]
            refine ((HO.out.store0 (i := q) (by omega) HRq.out).drew).congr (fun j hj => ?_)
            by_cases e : j = q
            · subst e; simp
            · simp [e]
          · exact (HT.out.write (lo := w4.heap.size + 1) (hi := w4.heap.size + 1 + 1) ((Frame.refl (w4.heap.size + 1) (w4.heap.size + 1 + 1) wr).setCell (Nat.le_refl _) (Nat.lt_succ_self _) _) (by omega) (by intro b hb; simp only [List.mem_cons, List.not_mem_nil, or_false] at hb; rcases hb with rfl <;> dsimp only <;> omega) (by intro s hs'; simp only [List.mem_cons, List.not_mem_nil, or_false] at hs'; rcases hs' with rfl | rfl | rfl | rfl <;> dsimp only <;> omega)).drew
        case measure => simp [intOf] <;> omega
    · obtain rfl : q = 12 := by omega
      have hz := HO.out.size
      have HO2 := HO.out.congr (f' := joinP n L f g) (fun j hj => by unfold part1; rw [if_pos hj])
      have hcell := (HO2.known (by omega)).2.2.2.1
      have e0 := hcell 0 (by omega)
      have e1 := hcell 1 (by omega)
      have e2 := hcell 2 (by omega)
      have e3 := hcell 3 (by omega)
      have e4 := hcell 4 (by omega)
      have e5 := hcell 5 (by omega)
      have e6 := hcell 6 (by omega)
      have e7 := hcell 7 (by omega)
      have e8 := hcell 8 (by omega)
      have e9 := hcell 9 (by omega)
      have e10 := hcell 10 (by omega)
      have e11 := hcell 11 (by omega)
      simp only [Nat.zero_add] at e0 e1 e2 e3 e4 e5 e6 e7 e8 e9 e10 e11
      clear hcell HO2 HO
      have HCY := Lib.hid (cycloWithin_yes n (by omega) (by omega) wr HW.out)
      unfold arrV at HCY
      generalize joinP n L f g = P at *
      go_wp2_with fail
      refine HCY.out.mono ?_
      rintro e w7 ⟨a7, k7, rfl, s7, b7⟩
      have st7 := HT.out.keep b7
      have hz7 := b7.size
      have S7 := Lib.hid s7
      clear s7
      clear b7
      obtain ⟨d0, d1⟩ := (st7.box 0 _ rfl).cell2
      have dz := (st7.box 0 _ rfl).2.2
      have B7 := st7.1
      dsimp only at dz
      clear st7
      go_wp2
      refine bodyPost_ret (v := .tuple #[.agg #[.int .i64 (n : Int), .slice a7 (phiN n) k7], .int .i64 0]) (by simp [results, Try.results179, go_sem, d0, d1]) rfl ?_
      refine ⟨_, _, rfl, ?_, by go_grown⟩
      exact (((S7.out.setOther (.inl (by show w.heap.size < _; omega)) _).setOther (.inl (by show w.heap.size < _; omega)) _).wide (by omega) (by simp) (Nat.le_refl _)).congr (fun j hj => (HPE.out j hj).symm)

set_option maxRecDepth 100000 in
set_option maxHeartbeats 1000000 in
theorem productWithin_big (n : Nat) (hn1 : 1 ≤ n) (hn2 : n ≤ 16) {L M : Nat} (w : World) (hs : Sl o w lo hi v L f) (ht : Sl o' w lo' hi' v' M g) (hf : Within f L 12000000000) (hg : Within g M 12000000000) (hL0 : 0 < L) (hLM : L ≤ M) (hM : M ≤ 12) (hz : ∀ j, L ≤ j → j < M → g j = 0) (hw : ¬ Within (prodZ n L f g) (phiN n) 1000000000) :
    Calls Try.prog 179 #[.int .i64 (n : Int), v, v'] w fun e w' => e = .returned (failV 3) ∧ Below w.heap.size w w' := by
  have hp := phi_le12 n hn2 hn1
  have hL : L ≤ 12 := by omega
  have hM0 : 0 < M := by omega
  have HW := Lib.hid (fun q => hw ((joinP_within hp).1 q))
  have HHB := Lib.hid (fun j (hj : j < M) => (halves_bd hg j hj).1)
  have HLB := Lib.hid (fun j (hj : j < M) => (halves_bd hg j hj).2.1)
  have HPH := Lib.hid (cut_bd (n := phiN n) (f := prodZ n L f (hiH g)) (C := 2764800000000000000) (by omega) (fun j hj => by have := prodZ_bd (by omega) hn1 (by omega : (0 : Int) ≤ 400000) hf (fun j hj => HHB.out j (by omega)) hL hj; omega))
  have HPL := Lib.hid (cut_bd (n := phiN n) (f := prodZ n L f (loH g)) (C := 2764800000000000000) (by omega) (fun j hj => by have := prodZ_bd (by omega) hn1 (by omega : (0 : Int) ≤ 400000) hf (fun j hj => HLB.out j (by omega)) hL hj; omega))
  have HZH := Lib.hid (show ∀ j, L ≤ j → j < M → hiH g j = 0 from fun j h1 h2 => by unfold hiH; rw [hz j h1 h2]; rfl)
  have HZL := Lib.hid (show ∀ j, L ≤ j → j < M → loH g j = 0 from fun j h1 h2 => by unfold loH; rw [hz j h1 h2]; rfl)
  have HF := Lib.hid hf
  have HG := Lib.hid hg
  have HR := Lib.hid (fun j (hj : j < 12) => show inR (joinP n L f g j) from by
    have h3 := HPL.out j
    have := joinZ_inR (h := cut (phiN n) (prodZ n L f (hiH g)) j) (l := cut (phiN n) (prodZ n L f (loH g)) j) (by omega) (by omega)
    unfold inR joinP; omega)
  clear hw hf hg hz
  have hhs := hs.size
  have hht := ht.size
  obtain ⟨a, cap, rfl⟩ := hs.shape
  obtain ⟨a', cap', rfl⟩ := ht.shape
  have st0 := (((St.start w).addSl ⟨o, lo, hi, .slice a L cap, L, f⟩ hs).addSl ⟨o', lo', hi', .slice a' M cap', M, g⟩ ht).boxNew (.int .i64 0) (.slice none 0 0) 24
  have q1 := st0.sl 0 ⟨o', lo', hi', .slice a' M cap', M, g⟩ rfl
  dsimp only at q1
  clear hs ht
  go_enter Try.func179, Try.ntmps179
  go_wp2_with fail
  refine (halvesOf_any _ q1 HG.out hM0 hM).mono ?_
  rintro e w2 ⟨kh, kl, rfl, sh, sl, b2⟩
  clear q1
  have st2 := st0.keep b2
  have hz2 := b2.size
  simp only [World.size_alloc] at hz2
  have hz2' := sl.size
  simp only [World.size_alloc] at sh sl hz2'
  have SH := Lib.hid sh
  have SLo := Lib.hid sl
  clear st0 b2 sh sl
  have q0 := st2.sl 1 ⟨o, lo, hi, .slice a L cap, L, f⟩ rfl
  dsimp only at q0
  go_wp2_with fail
  refine (productParts_any n hn1 hn2 _ q0 SH.out HF.out HHB.out hLM hM HZH.out).mono ?_
  rintro e w3 ⟨rfl, b3⟩
  clear q0
  have SL3 := Lib.hid ((SLo.out.keep b3 hz2').alloc (.cells (arrC (cut (phiN n) (prodZ n L f (hiH g)))) 136))
  have st3 := ((st2.keep b3).alloc (.cells (arrC (cut (phiN n) (prodZ n L f (hiH g)))) 136)).addSl ⟨true, w3.heap.size, w3.heap.size + 1, .slice (some ⟨w3.heap.size, 0, none⟩) 12 12, 12, cut (phiN n) (prodZ n L f (hiH g))⟩ (Sl.arr w3 _ _ (fun j _ => by have := HPH.out j; unfold inR; omega))
  have hz3 := b3.size
  clear st2 b3 SH SLo
  have q0 := st3.sl 2 ⟨o, lo, hi, .slice a L cap, L, f⟩ rfl
  dsimp only at q0
  unfold arrC at st3 q0 SL3
  unfold arrV
  go_wp2_with fail
  refine (productParts_any n hn1 hn2 _ q0 SL3.out HF.out HLB.out hLM hM HZL.out).mono ?_
  rintro e w4 ⟨rfl, b4⟩
  clear q0
  have hz4 := b4.size
  simp only [World.size_alloc] at hz4
  have st4 := ((st3.keep b4).alloc (.cells (arrC (cut (phiN n) (prodZ n L f (loH g)))) 136)).addSl ⟨true, w4.heap.size, w4.heap.size + 1, .slice (some ⟨w4.heap.size, 0, none⟩) 12 12, 12, cut (phiN n) (prodZ n L f (loH g))⟩ (Sl.arr w4 _ _ (fun j _ => by have := HPL.out j; unfold inR; omega))
  clear st3 b4 SL3
  have hpr := (Sl.arr (w4.alloc (.cells (arrC (cut (phiN n) (prodZ n L f (loH g)))) 136)) (fun _ => 0) 136 (fun j _ => by unfold inR; omega)).congr (f' := part1 (joinP n L f g) 0) (fun j hj => by unfold part1; rw [if_neg (Nat.not_lt_zero _)])
  have st5 := st4.alloc (.cells (arrC (fun _ => 0)) 136)
  simp only [World.size_alloc] at hpr
  clear st4
  unfold arrC at hpr st5
  have HPR := Lib.hid hpr
  have ST5 := Lib.hid st5
  clear hpr st5
  unfold arrV
  go_wp2
  go_loopw [27] (fun s38 wr => ∃ q : Nat, q ≤ 12 ∧ s38 = .int .i64 q ∧ Sl true wr (w4.heap.size + 1) (w4.heap.size + 1 + 1) (.slice (some ⟨w4.heap.size + 1, 0, none⟩) 12 12) 12 (part1 (joinP n L f g) q) ∧
      St w wr [(w.heap.size, [.int .i64 0, .slice none 0 0])] [⟨true, w4.heap.size, w4.heap.size + 1, .slice (some ⟨w4.heap.size, 0, none⟩) 12 12, 12, cut (phiN n) (prodZ n L f (loH g))⟩, ⟨true, w3.heap.size, w3.heap.size + 1, .slice (some ⟨w3.heap.size, 0, none⟩) 12 12, 12, cut (phiN n) (prodZ n L f (hiH g))⟩, ⟨o', lo', hi', .slice a' M cap', M, g⟩, ⟨o, lo, hi, .slice a L cap, L, f⟩]) (fun s38 _ => 12 - (intOf s38).toNat)
  case atStart => exact ⟨0, Nat.zero_le _, rfl, HPR.out, ST5.out⟩
  case round =>
    clear HPR ST5
    obtain ⟨q, hq, rfl, hown, hst⟩ := hrel
    have HO := Lib.hid hown; clear hown
    have HT := Lib.hid hst; clear hst
    by_cases hlt : q < 12
    · have k1 := ((HT.out.sl 1 ⟨true, w3.heap.size, w3.heap.size + 1, .slice (some ⟨w3.heap.size, 0, none⟩) 12 12, 12, cut (phiN n) (prodZ n L f (hiH g))⟩ rfl).known (by show 0 < 12; omega)).2.2.2.1 q hlt
      have k2 := ((HT.out.sl 0 ⟨true, w4.heap.size, w4.heap.size + 1, .slice (some ⟨w4.heap.size, 0, none⟩) 12 12, 12, cut (phiN n) (prodZ n L f (loH g))⟩ rfl).known (by show 0 < 12; omega)).2.2.2.1 q hlt
      dsimp only at k1 k2
      rw [Nat.zero_add] at k1 k2
      obtain ⟨hh1, hh2⟩ := HPH.out q
      obtain ⟨hl1, hl2⟩ := HPL.out q
      have W1 := Lib.hid (part1_succ (joinP n L f g) q)
      have HRq := Lib.hid (HR.out q hlt)
      have k3 := (HO.out.known (by omega)).2.2.2.1 q (by omega)
      have z3 := (HO.out.known (by omega)).2.2.2.2 rfl q
      rw [Nat.zero_add] at k3
      have HJ := Lib.hid (show joinZ (cut (phiN n) (prodZ n L f (hiH g)) q) (cut (phiN n) (prodZ n L f (loH g)) q) = joinP n L f g q from rfl)
      generalize cut (phiN n) (prodZ n L f (hiH g)) q = u1 at *
      generalize cut (phiN n) (prodZ n L f (loH g)) q = u2 at *
      have hq12 : (q : Int) < 12 := by omega
      go_wp2
      go_region_held3 (fun w' => w'.cell? ⟨w3.heap.size, q, none⟩ = some (.int .i64 u1) ∧ w'.cell? ⟨w4.heap.size, q, none⟩ = some (.int .i64 u2))
        (first | exact ⟨k1, k2⟩ | exact ⟨cell_set1 k1 (by omega), cell_set1 k2 (by omega)⟩ | go_keep)
        (first | (go_at_call 206; refine (joinHalves_any _ _ _ (by omega) (by omega) (by omega) (by omega)).mono ?_; rw [HJ.out]; rintro e w6 ⟨rfl, rfl⟩))
      all_goals
        go_wp2
        go_roundw
        case rel =>
          refine ⟨q + 1, by omega, by go_num, ?_, ?_⟩
          · rw [W1.out]
            refine ((HO.out.store0 (i := q) (by omega) HRq.out).drew).congr (fun j hj => ?_)
            by_cases e : j = q
            · subst e; simp
            · simp [e]
          · exact (HT.out.write (lo := w4.heap.size + 1) (hi := w4.heap.size + 1 + 1) ((Frame.refl (w4.heap.size + 1) (w4.heap.size + 1 + 1) wr).setCell (Nat.le_refl _) (Nat.lt_succ_self _) _) (by omega) (by intro b hb; simp only [List.mem_cons, List.not_mem_nil, or_false] at hb; rcases hb with rfl <;> dsimp only <;> omega) (by intro s hs'; simp only [List.mem_cons, List.not_mem_nil, or_false] at hs'; rcases hs' with rfl | rfl | rfl | rfl <;> dsimp only <;> omega)).drew
        case measure => simp [intOf] <;> omega
    · obtain rfl : q = 12 := by omega
      have hz := HO.out.size
      have HO2 := HO.out.congr (f' := joinP n L f g) (fun j hj => by unfold part1; rw [if_pos hj])
      have hcell := (HO2.known (by omega)).2.2.2.1
      have e0 := hcell 0 (by omega)
      have e1 := hcell 1 (by omega)
      have e2 := hcell 2 (by omega)
      have e3 := hcell 3 (by omega)
      have e4 := hcell 4 (by omega)
      have e5 := hcell 5 (by omega)
      have e6 := hcell 6 (by omega)
      have e7 := hcell 7 (by omega)
      have e8 := hcell 8 (by omega)
      have e9 := hcell 9 (by omega)
      have e10 := hcell 10 (by omega)
      have e11 := hcell 11 (by omega)
      simp only [Nat.zero_add] at e0 e1 e2 e3 e4 e5 e6 e7 e8 e9 e10 e11
      clear hcell HO2 HO
      have HCY := Lib.hid (cycloWithin_no (n : Int) wr HR.out HW.out)
      unfold arrV at HCY
      generalize joinP n L f g = P at *
      go_wp2_with fail
      refine HCY.out.mono ?_
      rintro e w7 ⟨rfl, b7⟩
      have st7 := HT.out.keep b7
      have hz7 := b7.size
      clear b7
      obtain ⟨d0, d1⟩ := (st7.box 0 _ rfl).cell2
      have dz := (st7.box 0 _ rfl).2.2
      have B7 := st7.1
      dsimp only at dz
      clear st7
      go_wp2
      refine bodyPost_ret (v := failV 3) (by simp [results, Try.results179, go_sem, failV, d0, d1]) rfl ?_
      exact ⟨rfl, by go_grown⟩

end
end

section
open Go.RowKit Go.ChangeShapes Go.Sort
set_option linter.unusedVariables false
set_option linter.unusedSimpArgs false

section
variable {o o' : Bool} {lo hi lo' hi' L : Nat} {v v' : Value} {f g : Nat → Int}
set_option maxRecDepth 100000 in
set_option maxHeartbeats 1000000 in
theorem l01Product_any (n : Nat) (h1 : 1 ≤ n) (h2 : n ≤ 16) (w : World) (hs : Sl o w lo hi v L f) (ht : Sl o' w lo' hi' v' L g) (hf : Within f L 12000000000) (hg : ∀ j, j < L → -400000 ≤ g j ∧ g j ≤ 400000) (hL0 : 0 < L) (hL : L ≤ 12) :
    Calls Try.prog 181 #[.agg #[.int .i64 (n : Int), v], v'] w fun e w' => ∃ a' cap', e = .returned (.agg #[.int .i64 (n : Int), .slice a' (phiN n) cap']) ∧ Sl true w' w.heap.size w'.heap.size (.slice a' (phiN n) cap') (phiN n) (prodZ n L f g) ∧ Below w.heap.size w w' := by
  obtain ⟨a, cap, rfl⟩ := hs.shape
  obtain ⟨a', cap', rfl⟩ := ht.shape
  have hhs := hs.size
  have hht := ht.size
  obtain ⟨M, hM⟩ : ∃ M : Nat, M + 1 = L + L := ⟨L + L - 1, by omega⟩
  have HRED := Lib.hid (fun j (hj : j < phiN n) => show prodZ n L f g j = redP n (pad M (convZ f g L L)) j from by
    rw [show pad M (convZ f g L L) = convZ f g L L from by
      funext i; unfold pad
      by_cases e : i < M
      · rw [if_pos e]
      · rw [if_neg e, convZ_far f g L L i (by omega)]]
    exact (redP_conv (by omega) h1 hf hg hL hj).symm)
  have HCB := Lib.hid (fun i (hi : i ≤ L) j => convZ_bd12 (by omega : (0 : Int) ≤ 400000) hf hg hL i hi j)
  have HG := Lib.hid hg
  have HF := Lib.hid hf
  clear hf hg
  have st0 := (((((St.start w).addSl ⟨o, lo, hi, .slice a L cap, L, f⟩ hs).addSl ⟨o', lo', hi', .slice a' L cap', L, g⟩ ht).alloc (.cells #[.int .i64 (n : Int), .slice a L cap] 24)).addBox w.heap.size [.int .i64 (n : Int), .slice a L cap] (Box.made _ _ _ _ (fun j v h => by simpa using h)))
  replace st0 := ((st0.alloc (.cells #[.int .i64 0, .slice none 0 0] 24)).addBox (w.heap.size + 1) [.int .i64 0, .slice none 0 0] (by
    have := Box.made (w.alloc (.cells #[.int .i64 (n : Int), .slice a L cap] 24)) #[.int .i64 0, .slice none 0 0] 24 [.int .i64 0, .slice none 0 0] (fun j v h => by simpa using h)
    simpa using this))
  obtain ⟨x0, x1⟩ := (st0.box 1 (w.heap.size, [.int .i64 (n : Int), .slice a L cap]) rfl).cell2
  have HST0 := Lib.hid (st0.alloc (.cells (madeCells #[.int .i64 0] M) 2))
  have hsm := Sl.made ((w.alloc (.cells #[.int .i64 (n : Int), .slice a L cap] 24)).alloc (.cells #[.int .i64 0, .slice none 0 0] 24)) (madeCells #[.int .i64 0] M) 2 M M (convZ f g L 0) (Nat.le_refl _) (by unfold maxLen; omega) (fun _ _ => by simp [convZ, inR]) (fun j hj => madeCells_at _ _ _ hj)
  simp only [World.size_alloc] at hsm
  have HSM := Lib.hid hsm
  clear hsm st0 hs ht
  have hmk := run_make_row' (P := Try.prog) 22 2 (.int .i64 0) 8 Try.underlying22 Try.info2 rfl .i64 .i64 M (by omega) (by omega)
  rw [show ((M : Nat) : Int) = (L : Int) + (L : Int) - 1 by omega] at hmk
  go_enter Try.func181, Try.ntmps181
  go_wp2
  clear hmk x0 x1
  go_loopw [6] (fun s6 wr => ∃ i : Nat, i ≤ L ∧ s6 = .int .i64 i ∧ Sl true wr (w.heap.size + 2) (w.heap.size + 3) (.slice (some ⟨w.heap.size + 2, 0, none⟩) M M) M (convZ f g L i) ∧
      St w wr [(w.heap.size + 1, [.int .i64 0, .slice none 0 0]), (w.heap.size, [.int .i64 (n : Int), .slice a L cap])] [⟨o', lo', hi', .slice a' L cap', L, g⟩, ⟨o, lo, hi, .slice a L cap, L, f⟩]) (fun s6 _ => L - (intOf s6).toNat)
  case atStart => exact ⟨0, Nat.zero_le _, rfl, HSM.out, HST0.out⟩
  case round =>
    clear HSM HST0
    obtain ⟨i, hiL, rfl, hown, hst⟩ := hrel
    have HO0 := Lib.hid hown; clear hown
    have HT0 := Lib.hid hst; clear hst
    obtain ⟨x0, x1⟩ := (HT0.out.box 1 (w.heap.size, [.int .i64 (n : Int), .slice a L cap]) rfl).cell2
    by_cases hlt : i < L
    · obtain ⟨hf1, hf2⟩ := HF.out i hlt
      obtain ⟨wi, hwi⟩ : ∃ x : World, x = wr := ⟨_, rfl⟩
      subst hwi
      go_wp2
      clear x0 x1
      go_loopw [7] (fun s7 wr => ∃ m : Nat, m ≤ L ∧ s7 = .int .i64 m ∧ Sl true wr (w.heap.size + 2) (w.heap.size + 3) (.slice (some ⟨w.heap.size + 2, 0, none⟩) M M) M (addRow (f i) g i m (convZ f g L i)) ∧
          St w wr [(w.heap.size + 1, [.int .i64 0, .slice none 0 0]), (w.heap.size, [.int .i64 (n : Int), .slice a L cap])] [⟨o', lo', hi', .slice a' L cap', L, g⟩, ⟨o, lo, hi, .slice a L cap, L, f⟩]) (fun s7 _ => L - (intOf s7).toNat)
      case atStart => exact ⟨0, Nat.zero_le _, rfl, by rw [addRow_zero]; exact HO0.out, HT0.out⟩
      case round =>
        clear HO0 HT0
        obtain ⟨m, hm, rfl, hown, hst⟩ := hrel
        have HO := Lib.hid hown; clear hown
        have HT := Lib.hid hst; clear hst
        by_cases hlt2 : m < L
        · have qa := HT.out.sl 1 ⟨o, lo, hi, .slice a L cap, L, f⟩ rfl
          dsimp only at qa
          obtain ⟨b, off, c1, hv, _, _, _, _, hc, _⟩ := qa.at (by omega)
          obtain ⟨rfl, rfl⟩ : a = some ⟨b, off, none⟩ ∧ cap = c1 := by cases hv; exact ⟨rfl, rfl⟩
          have hck := hc i hlt
          clear hv hc qa
          have qb := HT.out.sl 0 ⟨o', lo', hi', .slice a' L cap', L, g⟩ rfl
          dsimp only at qb
          obtain ⟨b', off', c2, hv2, _, _, _, _, hc2, _⟩ := qb.at (by omega)
          obtain ⟨rfl, rfl⟩ : a' = some ⟨b', off', none⟩ ∧ cap' = c2 := by cases hv2; exact ⟨rfl, rfl⟩
          have hck2 := hc2 m hlt2
          clear hv2 hc2 qb
          obtain ⟨x0, x1⟩ := (HT.out.box 1 (w.heap.size, [.int .i64 (n : Int), .slice (some ⟨b, off, none⟩) L cap]) rfl).cell2
          obtain ⟨hg1, hg2⟩ := HG.out m hlt2
          obtain ⟨hp1, hp2⟩ := mul_abs (B := 400000) (by omega) hf1 hf2 hg1 hg2
          obtain ⟨hu1, hu2⟩ := HCB.out i hiL (i + m)
          have HW := Lib.hid (addRow_succ (f i) g i m (convZ f g L i))
          have hck3 := (HO.out.known (by omega)).2.2.2.1 (i + m) (by omega)
          have hfr := (HO.out.known (by omega)).2.2.2.2 rfl (i + m)
          rw [Nat.zero_add, addRow_at] at hck3
          have hi1 : (i : Int) < L := by omega
          have hi2 : (m : Int) < L := by omega
          have hi3 : (i : Int) + (m : Int) < M := by omega
          go_wp2
          go_region
          go_wp2
          go_roundw
          case rel =>
            refine ⟨m + 1, by omega, by go_num, ?_, ?_⟩
            · rw [HW.out]
              refine ((HO.out.store0 (i := i + m) (by omega) (by unfold inR; omega)).drew).congr (fun j hj => ?_)
              by_cases e : j = i + m
              · subst e; simp
              · simp [e]
            · exact (HT.out.write (lo := w.heap.size + 2) (hi := w.heap.size + 3) ((Frame.refl (w.heap.size + 2) (w.heap.size + 3) wr).setCell (by show w.heap.size + 2 ≤ w.heap.size + 1 + 1; omega) (by show w.heap.size + 1 + 1 < _; omega) _) (by omega) (by intro b hb; simp only [List.mem_cons, List.not_mem_nil, or_false] at hb; rcases hb with rfl | rfl <;> dsimp only <;> omega) (by intro s hs'; simp only [List.mem_cons, List.not_mem_nil, or_false] at hs'; rcases hs' with rfl | rfl <;> dsimp only <;> omega)).drew
          case measure => simp [intOf] <;> omega
        · obtain rfl : m = L := by omega
          go_wp2
          go_roundw
          case rel => exact ⟨i + 1, by omega, by go_num, HO.out, HT.out⟩
          case measure => simp [intOf] <;> omega
    · obtain rfl : i = L := by omega
      go_wp2_with fail
      refine (l01Reduce_any n h1 (by omega) _ HO0.out (by omega)).mono ?_
      rintro e w2 ⟨a1, k1, rfl, s1, b1⟩
      have hz1 := b1.size
      have st1 := HT0.out.keep b1
      have hz0 := HO0.out.size
      have S1 := Lib.hid s1
      clear s1 b1 x0 x1
      obtain ⟨d0, d1⟩ := (st1.box 0 _ rfl).cell2
      have dz := (st1.box 0 _ rfl).2.2
      have B1 := st1.1
      dsimp only at dz
      clear st1
      go_wp2
      refine bodyPost_ret (v := .agg #[.int .i64 (n : Int), .slice a1 (phiN n) k1]) (by simp [results, Try.results181, go_sem, d0, d1]) rfl ?_
      refine ⟨_, _, rfl, ?_, by go_grown⟩
      exact (((S1.out.setOther (.inl (by show w.heap.size + 1 < _; omega)) _).setOther (.inl (by show w.heap.size + 1 < _; omega)) _).wide (by omega) (by simp) (Nat.le_refl _)).congr (fun j hj => HRED.out j hj)
end
end

section
open Go.RowKit Go.ChangeShapes Go.Sort
set_option linter.unusedVariables false
set_option linter.unusedSimpArgs false

theorem Box.made2 {w : World} {b : Nat} {v0 v1 : Value} {t : TypeId} (h : b = w.heap.size) : Box (w.alloc (.cells #[v0, v1] t)) b [v0, v1] := by
  subst h
  exact Box.made _ _ _ _ (fun j v h => by simpa using h)
theorem Box.alloc2 {w : World} {b : Nat} {vs : List Value} (h : Box w b vs) (ob : Obj) : Box (w.alloc ob) b vs := h.keep ((Below.refl _ _).alloc (Nat.le_refl _) _)
theorem Box.drew2 {w : World} {b : Nat} {vs : List Value} (h : Box w b vs) : Box w.drew b vs := h.keep (Below.refl _ _).drew
theorem Box.set2_other {w : World} {b c i j : Nat} {u v : Value} {vs : List Value} (h : Box w b vs) (hc : b ≠ c) : Box ((w.setCell ⟨c, i, none⟩ u).setCell ⟨c, j, none⟩ v) b vs :=
  h.keepF (lo := c) (hi := c + 1) (((Frame.refl c (c + 1) w).setCell (Nat.le_refl _) (Nat.lt_succ_self _) _).setCell (Nat.le_refl _) (Nat.lt_succ_self _) _) (by omega)
theorem St.tailB {W w : World} {bs : List (Nat × List Value)} {ss : List SlF} {b : Nat × List Value} (h : St W w (b :: bs) ss) : St W w bs ss := ⟨h.1, fun x hx => h.2.1 x (List.mem_cons_of_mem _ hx), h.2.2⟩
theorem St.set2 {W w : World} {bs : List (Nat × List Value)} {ss : List SlF} {b i j : Nat} {u v : Value} (h : St W w bs ss) (hb : W.heap.size ≤ b) (hbs : ∀ x ∈ bs, x.1 < b ∨ b + 1 ≤ x.1) (hss : ∀ s ∈ ss, s.hi ≤ b ∨ b + 1 ≤ s.lo) :
    St W ((w.setCell ⟨b, i, none⟩ u).setCell ⟨b, j, none⟩ v) bs ss :=
  h.write (lo := b) (hi := b + 1) (((Frame.refl b (b + 1) w).setCell (Nat.le_refl _) (Nat.lt_succ_self _) _).setCell (Nat.le_refl _) (Nat.lt_succ_self _) _) hb hbs hss

section
variable {W w : World} {bs : List (Nat × List Value)} {ss : List SlF} {n u6 u7 c0 c1 : Value} {t : TypeId} {ob : Obj} {lo8 hi8 lo9 hi9 N k8 k9 p r : Nat} {a8 a9 : Option Addr} {f8 f9 : Nat → Int}
theorem fin1 (h : St W w bs ss) (h8 : Sl true w lo8 hi8 (.slice a8 N k8) N f8) (h9 : Sl true w lo9 hi9 (.slice a9 N k9) N f9) :
    St W ((w.alloc (.cells #[n, u6] t)).alloc (.cells #[n, u7] t)) ((w.heap.size + 1, [n, u7]) :: (w.heap.size, [n, u6]) :: bs) (⟨true, lo9, hi9, .slice a9 N k9, N, f9⟩ :: ⟨true, lo8, hi8, .slice a8 N k8, N, f8⟩ :: ss) := by
  have := (((h.addSl ⟨true, lo8, hi8, .slice a8 N k8, N, f8⟩ h8).addSl ⟨true, lo9, hi9, .slice a9 N k9, N, f9⟩ h9).boxNew n u6 t).boxNew n u7 t
  simpa only [World.size_alloc] using this
theorem St.swap {b1 b2 : Nat × List Value} (h : St W w (b1 :: b2 :: bs) ss) : St W w (b2 :: b1 :: bs) ss :=
  ⟨h.1, fun x hx => h.2.1 x (by simp only [List.mem_cons] at hx ⊢; rcases hx with h | h | h <;> simp [h]), h.2.2⟩
theorem fin2 (h : St W w bs ss) (h8 : Sl true w lo8 hi8 (.slice a8 N k8) N f8) (h9 : Sl true w lo9 hi9 (.slice a9 N k9) N f9) :
    St W ((w.alloc (.cells #[n, u7] t)).alloc (.cells #[n, u6] t)) ((w.heap.size, [n, u7]) :: (w.heap.size + 1, [n, u6]) :: bs) (⟨true, lo9, hi9, .slice a9 N k9, N, f9⟩ :: ⟨true, lo8, hi8, .slice a8 N k8, N, f8⟩ :: ss) :=
  (by
    have := (((h.addSl ⟨true, lo8, hi8, .slice a8 N k8, N, f8⟩ h8).addSl ⟨true, lo9, hi9, .slice a9 N k9, N, f9⟩ h9).boxNew n u7 t).boxNew n u6 t
    simp only [World.size_alloc] at this
    exact this.swap)
theorem St.sets (h : St W w bs ss) (h8 : Sl true w lo8 hi8 (.slice a8 N k8) N f8) (h9 : Sl true w lo9 hi9 (.slice a9 N k9) N f9) (hp : W.heap.size ≤ p) (hbs : ∀ x ∈ bs, x.1 < p) (hss : ∀ s ∈ ss, s.hi ≤ p) (hp8 : p < lo8 ∨ hi8 ≤ p) (hp9 : p < lo9 ∨ hi9 ≤ p) {u v : Value} :
    St W ((w.setCell ⟨p, 0, none⟩ u).setCell ⟨p, 1, none⟩ v) bs ss ∧ Sl true ((w.setCell ⟨p, 0, none⟩ u).setCell ⟨p, 1, none⟩ v) lo8 hi8 (.slice a8 N k8) N f8 ∧ Sl true ((w.setCell ⟨p, 0, none⟩ u).setCell ⟨p, 1, none⟩ v) lo9 hi9 (.slice a9 N k9) N f9 :=
  ⟨h.set2 hp (fun x hx => .inl (hbs x hx)) (fun s hs => .inl (hss s hs)), (h8.setOther hp8 _).setOther hp8 _, (h9.setOther hp9 _).setOther hp9 _⟩
theorem fin4 (h : St W w bs ss) (h8 : Sl true w lo8 hi8 (.slice a8 N k8) N f8) (h9 : Sl true w lo9 hi9 (.slice a9 N k9) N f9) (bp : Box w p [c0, c1]) (br : Box w r [c0, c1]) (hpr : p ≠ r)
    (hp : W.heap.size ≤ p) (hbs : ∀ x ∈ bs, x.1 < p) (hss : ∀ s ∈ ss, s.hi ≤ p) (hp8 : p < lo8 ∨ hi8 ≤ p) (hp9 : p < lo9 ∨ hi9 ≤ p)
    (hr : W.heap.size ≤ r) (hbr : ∀ x ∈ bs, x.1 < r) (hsr : ∀ s ∈ ss, s.hi ≤ r) (hr8 : r < lo8 ∨ hi8 ≤ r) (hr9 : r < lo9 ∨ hi9 ≤ r) :
    St W ((((w.setCell ⟨p, 0, none⟩ n).setCell ⟨p, 1, none⟩ u6).setCell ⟨r, 0, none⟩ n).setCell ⟨r, 1, none⟩ u7) ((r, [n, u7]) :: (p, [n, u6]) :: bs) (⟨true, lo9, hi9, .slice a9 N k9, N, f9⟩ :: ⟨true, lo8, hi8, .slice a8 N k8, N, f8⟩ :: ss) := by
  obtain ⟨i1, i2, i3⟩ := St.sets h h8 h9 hp hbs hss hp8 hp9 (u := n) (v := u6)
  obtain ⟨j1, j2, j3⟩ := St.sets i1 i2 i3 hr hbr hsr hr8 hr9 (u := n) (v := u7)
  exact (((j1.addSl ⟨true, lo8, hi8, .slice a8 N k8, N, f8⟩ j2).addSl ⟨true, lo9, hi9, .slice a9 N k9, N, f9⟩ j3).addBox p [n, u6] ((bp.set2).set2_other hpr)).addBox r [n, u7] ((br.set2_other (Ne.symm hpr)).set2)
theorem fin3 (h : St W w bs ss) (h8 : Sl true w lo8 hi8 (.slice a8 N k8) N f8) (h9 : Sl true w lo9 hi9 (.slice a9 N k9) N f9) (bp : Box w p [c0, c1])
    (hp : W.heap.size ≤ p) (hbs : ∀ x ∈ bs, x.1 < p) (hss : ∀ s ∈ ss, s.hi ≤ p) (hp8 : p < lo8 ∨ hi8 ≤ p) (hp9 : p < lo9 ∨ hi9 ≤ p) :
    St W (((((w.alloc (.cells #[c0, c1] t)).setCell ⟨p, 0, none⟩ n).setCell ⟨p, 1, none⟩ u6).setCell ⟨w.heap.size, 0, none⟩ n).setCell ⟨w.heap.size, 1, none⟩ u7) ((w.heap.size, [n, u7]) :: (p, [n, u6]) :: bs) (⟨true, lo9, hi9, .slice a9 N k9, N, f9⟩ :: ⟨true, lo8, hi8, .slice a8 N k8, N, f8⟩ :: ss) := by
  have hlt := bp.1
  have z8 := h8.size
  have z9 := h9.size
  exact fin4 (h.alloc _) (h8.alloc _) (h9.alloc _) (bp.alloc2 _) (Box.made2 rfl) (by omega) hp hbs hss hp8 hp9 (by omega) (fun x hx => by have := hbs x hx; omega) (fun s hs => by have := hss s hs; omega) (by omega) (by omega)
theorem fin5 (h : St W w bs ss) (h8 : Sl true w lo8 hi8 (.slice a8 N k8) N f8) (h9 : Sl true w lo9 hi9 (.slice a9 N k9) N f9) (bp : Box w p [c0, c1])
    (hp : W.heap.size ≤ p) (hbs : ∀ x ∈ bs, x.1 < p) (hss : ∀ s ∈ ss, s.hi ≤ p) (hp8 : p < lo8 ∨ hi8 ≤ p) (hp9 : p < lo9 ∨ hi9 ≤ p) :
    St W (((w.alloc (.cells #[n, u6] t)).setCell ⟨p, 0, none⟩ n).setCell ⟨p, 1, none⟩ u7) ((p, [n, u7]) :: (w.heap.size, [n, u6]) :: bs) (⟨true, lo9, hi9, .slice a9 N k9, N, f9⟩ :: ⟨true, lo8, hi8, .slice a8 N k8, N, f8⟩ :: ss) := by
  have hlt := bp.1
  obtain ⟨i1, i2, i3⟩ := St.sets (h.alloc (.cells #[n, u6] t)) (h8.alloc _) (h9.alloc _) hp hbs hss hp8 hp9 (u := n) (v := u7)
  exact (((i1.addSl ⟨true, lo8, hi8, .slice a8 N k8, N, f8⟩ i2).addSl ⟨true, lo9, hi9, .slice a9 N k9, N, f9⟩ i3).addBox w.heap.size [n, u6] ((Box.made2 rfl).set2_other (by omega))).addBox p [n, u7] ((bp.alloc2 _).set2)
end

section
variable {o o' : Bool} {lo hi lo' hi' L : Nat} {v v' : Value} {f g : Nat → Int}
end
end

section
open Go.RowKit Go.ChangeShapes Go.Sort
set_option linter.unusedVariables false
set_option linter.unusedSimpArgs false

set_option maxRecDepth 100000 in
set_option maxHeartbeats 1000000 in
theorem residuesOf_any (n : Nat) (h1 : 1 ≤ n) (h2 : n ≤ 16) (w : World) :
    Calls Try.prog 118 #[.int .i64 (n : Int)] w fun e w' => ∃ (g cap : Nat), e = .returned (.slice (some ⟨g, 0, none⟩) (phiN n) cap) ∧ Sl true w' w.heap.size w'.heap.size (.slice (some ⟨g, 0, none⟩) (phiN n) cap) (phiN n) (fun k => (res n k : Int)) ∧ Below w.heap.size w w' := by
  have R1 := Row.made w w.heap.size (fun k => (res n k : Int)) (Nat.le_refl _)
  have st0 := (St.start w).alloc (.cells #[] 2)
  have HR1 := Lib.hid R1
  have HST := Lib.hid st0
  clear R1 st0
  go_enter Try.func118, Try.ntmps118
  go_wp2
  go_loopw [3, 4] (fun s3 s4 wr => ∃ (k g cap : Nat), k ≤ n ∧ s3 = .slice (some ⟨g, 0, none⟩) (phiTo n k) cap ∧ s4 = .int .i64 ((k : Int) + 1) ∧ Row wr w.heap.size g cap (phiTo n k) (fun k => (res n k : Int)) ∧ St w wr [] []) (fun _ s4 _ => n + 1 - (intOf s4).toNat)
  case atStart => exact ⟨0, _, _, Nat.zero_le _, rfl, rfl, HR1.out, HST.out⟩
  case round =>
    clear HR1 HST
    obtain ⟨k, g, cap, hk, rfl, rfl, hr, hst⟩ := hrel
    have R1 := Lib.hid hr; clear hr
    have HT := Lib.hid hst; clear hst
    obtain ⟨hl, hl'⟩ := R1.out.lt
    have hle := phiTo_le (n : Int) k
    by_cases hlt : k < n
    · by_cases hg : gcdI ((k : Int) + 1) n = 1
      · have hb : (gcdI ((k : Int) + 1) n == 1) = true := beq_iff_eq.2 hg
        have HS := Lib.hid (phiTo_yes (n : Int) k hg)
        have HA := Lib.hid (res_at n (by omega) h1 k hlt hg)
        clear hg
        go_wp2_with (first
          | (go_at_call 173; refine (commonDivisor_any _ _ _ (by omega) (by omega) (by omega) (by omega)).mono ?_; rintro e w' ⟨rfl, m', rfl⟩)
          | (at_builtin; refine wpList_push rfl (.tmp 15) (.tmp 17) rfl rfl w.heap.size g cap (phiTo n k) (fun k => (res n k : Int)) rfl ((show Row (wr.drewN m') w.heap.size g cap (phiTo n k) (fun k => (res n k : Int)) from R1.out).alloc _) wr.heap.size ((k : Int) + 1) rfl (heap_alloc_new (wr.drewN m') _) (by omega) ?_; intro gA kA wA rowA grA orA ltA
             have stA := Lib.hid (((HT.out.drewN m').alloc (.cells #[.int .i64 ((k : Int) + 1)] 2)).write (Frame.ofGrown grA) (by omega) (by intro b hb; cases hb) (by intro s hs'; cases hs'))
             have RA := Lib.hid rowA
             clear rowA grA))
        go_roundw
        case rel =>
          refine ⟨k + 1, gA, kA, by omega, by rw [HS.out], by go_num, ?_, stA.out⟩
          rw [HS.out]
          exact RA.out.congr (fun j hj => by
            by_cases e : j < phiTo n k
            · rw [if_pos e]
            · rw [if_neg e, show j = phiTo n k by omega, HA.out]; simp)
        case measure => simp [intOf] <;> omega
      · have hb : (gcdI ((k : Int) + 1) n == 1) = false := beq_eq_false_iff_ne.2 hg
        have HS := Lib.hid (phiTo_no (n : Int) k hg)
        clear hg
        go_wp2_with (first
          | (go_at_call 173; refine (commonDivisor_any _ _ _ (by omega) (by omega) (by omega) (by omega)).mono ?_; rintro e w' ⟨rfl, m', rfl⟩))
        go_roundw
        case rel => exact ⟨k + 1, g, cap, by omega, by rw [HS.out], by go_num, by rw [HS.out]; exact R1.out, HT.out.drewN _⟩
        case measure => simp [intOf] <;> omega
    · obtain rfl : k = n := by omega
      have HP := Lib.hid (phiTo_all k)
      go_wp2
      go_ret
      refine ⟨g, cap, by rw [HP.out]; rfl, ?_, HT.out.1⟩
      rw [← HP.out]
      exact Sl.ofRowF R1.out (fun j hj => by have := res_ok k (by omega) h1 j (by rw [← HP.out]; exact hj); unfold inR; omega) (by unfold maxLen; omega)
end

section
open Go.RowKit Go.ChangeShapes Go.Sort
set_option linter.unusedVariables false
set_option linter.unusedSimpArgs false
set_option maxRecDepth 100000
set_option maxHeartbeats 4000000
def cuOk (n a : Int) : Prop := 2 ≤ n ∧ n ≤ 16 ∧ 1 ≤ a ∧ a < n ∧ gcdI a n = 1
instance (n a : Int) : Decidable (cuOk n a) := by unfold cuOk; infer_instance
theorem resAt {n a : Nat} (h2 : 2 ≤ n) (h16 : n ≤ 16) (h1 : 1 ≤ a) (ha : a < n) (hg : Nat.gcd a n = 1) : ∃ i, i < phiN n ∧ res n i = a ∧ ∀ j, j < i → res n j ≠ a := by
  obtain ⟨h3, h4⟩ := plR_ok (n := n) (by omega) h2 h1 ha hg
  exact ⟨plR n a, h3, h4, fun j hj e => by
    have := res_inj40 (n := n) (by omega) h2 (show j < phiN n by omega) h3 (e.trans h4.symm)
    omega⟩
theorem CyclotomicUnit_impl_ok (n a : Nat) (h2 : 2 ≤ n) (h16 : n ≤ 16) (h1 : 1 ≤ a) (ha : a < n) (hg : Nat.gcd a n = 1) (w : World) :
    Calls Try.prog 66 #[.int .i64 (n : Int), .int .i64 (a : Int)] w fun e w' => ∃ a' k', e = .returned (.tuple #[.agg #[.int .i64 (n : Int), .slice a' (phiN n) k'], .int .i64 0]) ∧ Sl true w' w.heap.size w'.heap.size (.slice a' (phiN n) k') (phiN n) (cuF n a) ∧ Below w.heap.size w w' := by
  obtain ⟨i, hi, hri, hlt⟩ := resAt h2 h16 h1 ha hg
  have hp := phi_le12 n h16 (by omega)
  have st0 := (St.start w).boxNew (.int .i64 0) (.slice none 0 0) 24
  have HCO := Lib.hid (show cycloOfOk (n : Int) a (fun _ => 1) from ⟨by omega, by omega, by omega, fun j _ => by dsimp only; omega⟩)
  have HW := Lib.hid (cu_rwithin (n := n) (a := a) (by omega) (by omega) (by omega))
  have HRI := Lib.hid (show ((res n i : Nat) : Int) = (a : Int) by rw [hri])
  have HLT := Lib.hid (show ∀ j, j < i → ((res n j : Nat) : Int) ≠ (a : Int) from fun j hj e => hlt j hj (by omega))
  clear hri hlt
  go_enter Try.func66, Try.ntmps66
  go_wp2_with (first
    | (go_at_call 141; refine (isOrder_yes _ _ (by omega) (by omega)).mono ?_; rintro e w' ⟨rfl, rfl⟩)
    | (go_at_call 118; refine (residuesOf_any n (by omega) h16 _).mono ?_; rintro e w2 ⟨g2, c2, rfl, s2, b2⟩
       have S2 := Lib.hid s2
       have st2 := st0.keep b2
       have HC2 := Lib.hid (Contains_yes (a : Int) w2 i (by omega) s2 hi HRI.out HLT.out)
       have hz2 := b2.size
       try simp only [World.size_alloc] at hz2
       have s3 := Sl.made w2 #[.int .i64 1] 2 1 1 (fun _ => 1) (Nat.le_refl _) (by decide) (fun k _ => by unfold inR; omega) (fun k hk => by
         obtain rfl : k = 0 := by omega
         rfl)
       have st3 := st2.alloc (.cells #[.int .i64 1] 2)
       clear s2 b2 st0)
    | (go_at_call 120; refine HC2.out.mono ?_; rintro e w' ⟨rfl, rfl⟩)
    | (go_at_call 143; refine (Repeat_gen 1 (by unfold inR; omega) a h1 (by omega) _ s3).mono ?_; rintro e w4 ⟨g4, rfl, s4, b4⟩
       have S4 := Lib.hid s4
       have st4 := st3.keep b4
       have hz4 := b4.size
       try simp only [World.size_alloc] at hz4
       clear s4 b4 st3 s3)
    | (go_at_call 142; refine (CycloOf_impl_ok n _ S4.out HCO.out HW.out).mono ?_; rintro e w5 ⟨a5, c5, rfl, s5, b5⟩
       have S5 := Lib.hid s5
       have st5 := st4.keep b5
       have hz5 := b5.size
       obtain ⟨x0, x1⟩ := (st5.box 0 (w.heap.size, [.int .i64 0, .slice none 0 0]) rfl).cell2
       have xz := (st5.box 0 (w.heap.size, [.int .i64 0, .slice none 0 0]) rfl).2.2
       dsimp only at x0 x1 xz
       clear s5 b5 st4))
  have BB := st5.1
  refine bodyPost_ret (v := .tuple #[.agg #[.int .i64 (n : Int), .slice a5 (phiN n) c5], .int .i64 0]) (by simp [results, Try.results66, go_sem, x0, x1]) rfl ?_
  refine ⟨_, _, rfl, ?_, by go_grown⟩
  exact (((S5.out.congr (fun j hj => (cu_red (n := n) (a := a) (by omega) (by omega) (by omega) hj).symm)).setOther (.inl (by show w.heap.size < _; omega)) _).setOther (.inl (by show w.heap.size < _; omega)) _).wide (by omega) (by simp) (Nat.le_refl _)
theorem CyclotomicUnit_impl_no (n a : Int) (h : ¬ cuOk n a) (w : World) :
    Calls Try.prog 66 #[.int .i64 n, .int .i64 a] w fun e w' => e = .returned (failV 2) ∧ Below w.heap.size w w' := by
  have st0 := (St.start w).boxNew (.int .i64 0) (.slice none 0 0) 24
  by_cases h2 : n < 2
  · obtain ⟨x0, x1⟩ := (st0.box 0 (w.heap.size, [.int .i64 0, .slice none 0 0]) rfl).cell2
    have xz := (st0.box 0 (w.heap.size, [.int .i64 0, .slice none 0 0]) rfl).2.2
    dsimp only at x0 x1 xz
    have BB := st0.1
    clear h
    go_enter Try.func66, Try.ntmps66
    go_wp2_with fail
    refine bodyPost_ret (v := failV 2) (by simp [results, Try.results66, go_sem, failV, x0, x1]) rfl ⟨rfl, by go_grown⟩
  · by_cases h16 : 16 < n
    · obtain ⟨x0, x1⟩ := (st0.box 0 (w.heap.size, [.int .i64 0, .slice none 0 0]) rfl).cell2
      have xz := (st0.box 0 (w.heap.size, [.int .i64 0, .slice none 0 0]) rfl).2.2
      dsimp only at x0 x1 xz
      have BB := st0.1
      clear h
      go_enter Try.func66, Try.ntmps66
      go_wp2_with (go_at_call 141; refine (isOrder_no _ _ (.inr h16)).mono ?_; rintro e w' ⟨rfl, rfl⟩)
      refine bodyPost_ret (v := failV 2) (by simp [results, Try.results66, go_sem, failV, x0, x1]) rfl ⟨rfl, by go_grown⟩
    · obtain ⟨N, rfl⟩ := Int.eq_ofNat_of_zero_le (show 0 ≤ n by omega)
      have HNO := Lib.hid (show ∀ j, j < phiN N → ((res N j : Nat) : Int) ≠ a from fun j hj e => h (by
        have := res_lt40 (n := N) (by omega) (by omega) hj
        refine ⟨by omega, by omega, by omega, by omega, ?_⟩
        subst e
        unfold gcdI
        rw [Int.toNat_natCast, Int.toNat_natCast, this.2.2]; rfl))
      have hp := phi_le12 N (by omega) (by omega)
      clear h
      go_enter Try.func66, Try.ntmps66
      go_wp2_with (first
        | (go_at_call 141; refine (isOrder_yes _ _ (by omega) (by omega)).mono ?_; rintro e w' ⟨rfl, rfl⟩)
        | (go_at_call 118; refine (residuesOf_any N (by omega) (by omega) _).mono ?_; rintro e w2 ⟨g2, c2, rfl, s2, b2⟩
           have st2 := st0.keep b2
           have HC2 := Lib.hid (Contains_no a w2 (by omega) s2 HNO.out)
           have hz2 := b2.size
           try simp only [World.size_alloc] at hz2
           obtain ⟨x0, x1⟩ := (st2.box 0 (w.heap.size, [.int .i64 0, .slice none 0 0]) rfl).cell2
           have xz := (st2.box 0 (w.heap.size, [.int .i64 0, .slice none 0 0]) rfl).2.2
           dsimp only at x0 x1 xz
           clear s2 b2 st0)
        | (go_at_call 120; refine HC2.out.mono ?_; rintro e w' ⟨rfl, rfl⟩))
      have BB := st2.1
      refine bodyPost_ret (v := failV 2) (by simp [results, Try.results66, go_sem, failV, x0, x1]) rfl ⟨rfl, by go_grown⟩
end

section
open Go.RowKit Go.ChangeShapes Go.Sort
set_option linter.unusedVariables false
set_option linter.unusedSimpArgs false
set_option maxRecDepth 100000
set_option maxHeartbeats 4000000
theorem CyclotomicUnit_spec_no (n a : Int) (h : ¬ cuOk n a) (w : World) :
    Calls Try.prog 67 #[.int .i64 n, .int .i64 a] w fun e w' => e = .returned (failV 2) ∧ Below w.heap.size w w' := by
  have st0 := (St.start w).boxNew (.int .i64 0) (.slice none 0 0) 24
  by_cases h2 : 2 ≤ n ∧ n ≤ 16
  · obtain ⟨h2, h16⟩ := h2
    by_cases ha : 1 ≤ a ∧ a ≤ n
    · obtain ⟨h1, ha⟩ := ha
      have hg : ¬ gcdI a n = 1 := fun e => h ⟨h2, h16, h1, by
        by_cases e2 : a = n
        · exfalso
          subst e2
          unfold gcdI at e
          rw [Nat.gcd_self] at e
          omega
        · omega, e⟩
      have hgb : (gcdI a n != 1) = true := by rw [bne_iff_ne]; exact hg
      clear h hg
      obtain ⟨x0, x1⟩ := (st0.box 0 (w.heap.size, [.int .i64 0, .slice none 0 0]) rfl).cell2
      have xz := (st0.box 0 (w.heap.size, [.int .i64 0, .slice none 0 0]) rfl).2.2
      dsimp only at x0 x1 xz
      have BB := st0.1
      go_enter Try.func67, Try.ntmps67
      go_wp2_with (first | (go_at_call 101; refine (l01In_yes _ _ _ _ (by omega) (by omega)).mono ?_; rintro e w' ⟨rfl, rfl⟩) | (go_at_call 124; refine (l01Gcd_any _ _ _ (by omega) (by omega) (by omega) (by omega)).mono ?_; rintro e w' ⟨rfl, rfl⟩))
      refine bodyPost_ret (v := failV 2) (by simp [results, Try.results67, go_sem, failV, x0, x1]) rfl ⟨rfl, by go_grown⟩
    · have HX := Lib.hid (show a < 1 ∨ n < a by omega)
      clear h ha
      obtain ⟨x0, x1⟩ := (st0.box 0 (w.heap.size, [.int .i64 0, .slice none 0 0]) rfl).cell2
      have xz := (st0.box 0 (w.heap.size, [.int .i64 0, .slice none 0 0]) rfl).2.2
      dsimp only at x0 x1 xz
      have BB := st0.1
      go_enter Try.func67, Try.ntmps67
      go_wp2_with fail
      refine (l01In_yes _ _ _ _ (by omega) (by omega)).mono ?_
      rintro e w' ⟨rfl, rfl⟩
      go_wp2_with fail
      refine (l01In_no _ _ _ _ HX.out).mono ?_
      rintro e w' ⟨rfl, rfl⟩
      go_wp2_with fail
      refine bodyPost_ret (v := failV 2) (by simp [results, Try.results67, go_sem, failV, x0, x1]) rfl ⟨rfl, by go_grown⟩
  · have HX := Lib.hid (show n < 2 ∨ 16 < n by omega)
    clear h h2
    obtain ⟨x0, x1⟩ := (st0.box 0 (w.heap.size, [.int .i64 0, .slice none 0 0]) rfl).cell2
    have xz := (st0.box 0 (w.heap.size, [.int .i64 0, .slice none 0 0]) rfl).2.2
    dsimp only at x0 x1 xz
    have BB := st0.1
    go_enter Try.func67, Try.ntmps67
    go_wp2_with (first | (go_at_call 101; refine (l01In_no _ _ _ _ HX.out).mono ?_; rintro e w' ⟨rfl, rfl⟩))
    refine bodyPost_ret (v := failV 2) (by simp [results, Try.results67, go_sem, failV, x0, x1]) rfl ⟨rfl, by go_grown⟩
theorem CyclotomicUnit_spec_ok (n a : Nat) (h2 : 2 ≤ n) (h16 : n ≤ 16) (h1 : 1 ≤ a) (ha : a < n) (hg : Nat.gcd a n = 1) (w : World) :
    Calls Try.prog 67 #[.int .i64 (n : Int), .int .i64 (a : Int)] w fun e w' => ∃ a' k', e = .returned (.tuple #[.agg #[.int .i64 (n : Int), .slice a' (phiN n) k'], .int .i64 0]) ∧ Sl true w' w.heap.size w'.heap.size (.slice a' (phiN n) k') (phiN n) (cuF n a) ∧ Below w.heap.size w w' := by
  have hp := phi_le12 n h16 (by omega)
  have hge : gcdI (a : Int) (n : Int) = 1 := by unfold gcdI; rw [Int.toNat_natCast, Int.toNat_natCast, hg]; rfl
  have hgb : (gcdI (a : Int) (n : Int) != 1) = false := by rw [hge]; rfl
  have st0 := (St.start w).boxNew (.int .i64 0) (.slice none 0 0) 24
  clear hg hge
  go_enter Try.func67, Try.ntmps67
  go_wp2_with (first
    | (go_at_call 101; refine (l01In_yes _ _ _ _ (by omega) (by omega)).mono ?_; rintro e w' ⟨rfl, rfl⟩)
    | (go_at_call 124; refine (l01Gcd_any _ _ _ (by omega) (by omega) (by omega) (by omega)).mono ?_; rintro e w' ⟨rfl, rfl⟩)
    | (go_at_call 144; refine (l01Zero_any n (by omega) _).mono ?_; rintro e w2 ⟨a2, c2, rfl, s2, b2⟩
       have HS2 := Lib.hid ((s2.congr (f' := cuF n 0) (fun j hj => rfl)).alloc (.cells #[.int .i64 (n : Int), .slice a2 (phiN n) c2] 24))
       have ST2 := Lib.hid ((st0.keep b2).boxNew (.int .i64 (n : Int)) (.slice a2 (phiN n) c2) 24)
       have hz2 := b2.size
       have hs2 := s2.size
       try simp only [World.size_alloc] at hz2
       clear s2 b2 st0))
  go_loopw [7] (fun s7 wr => ∃ i : Nat, i ≤ a ∧ s7 = .int .i64 (i : Int) ∧ ∃ (lo6 hi6 : Nat) (a6 : Option Addr) (k6 : Nat), w.heap.size + 1 ≤ lo6 ∧ (w2.heap.size < lo6 ∨ hi6 ≤ w2.heap.size) ∧ Sl true wr lo6 hi6 (.slice a6 (phiN n) k6) (phiN n) (cuF n i) ∧ St w wr [(w2.heap.size, [.int .i64 (n : Int), .slice a6 (phiN n) k6]), (w.heap.size, [.int .i64 0, .slice none 0 0])] []) (fun s7 _ => a - (intOf s7).toNat)
  case atStart => exact ⟨0, Nat.zero_le _, rfl, _, _, a2, c2, by simp, .inr (Nat.le_refl _), HS2.out, ST2.out⟩
  case round =>
    clear HS2 ST2 hs2
    obtain ⟨i, hia, rfl, lo6, hi6, a6, k6, hl6, hd6, hown, hst6⟩ := hrel
    have HO := Lib.hid hown; clear hown
    have HT := Lib.hid hst6; clear hst6
    obtain ⟨p0, p1⟩ := (HT.out.box 0 (w2.heap.size, [.int .i64 (n : Int), .slice a6 (phiN n) k6]) rfl).cell2
    have pz := (HT.out.box 0 (w2.heap.size, [.int .i64 (n : Int), .slice a6 (phiN n) k6]) rfl).2.2
    have pl := (HT.out.box 0 (w2.heap.size, [.int .i64 (n : Int), .slice a6 (phiN n) k6]) rfl).1
    dsimp only at pz pl
    by_cases hlt : i < a
    · have hi12 : (i : Int) < (a : Int) := by omega
      have HU := Lib.hid (fun w' => l01Unit_any n (i : Int) w' (by omega) h16)
      have HUW := Lib.hid (cu_uwithin (n := n) (i := i) (by omega) (by omega) (by omega))
      have HCW := Lib.hid (cu_within (n := n) (a := i) (by omega) (by omega) (by omega))
      have hlo := HO.out.size
      go_wp2_with fail
      go_region_law (first
        | (go_simp; go_at_call 146; refine (HU.out _).mono ?_; rintro e w3 ⟨a3, k3, rfl, s3, b3⟩
           have hz3 := b3.size
           have st3 := HT.out.drew.keep b3
           have o3 := HO.out.drew.keep b3 hlo
           have HP := Lib.hid (l01Plus_any (n : Int) 1 w3 o3 s3 (by omega) (by omega) HCW.out HUW.out (by omega))
           have ST3 := Lib.hid st3
           obtain ⟨q0, q1⟩ := (st3.box 0 (w2.heap.size, [.int .i64 (n : Int), .slice a6 (phiN n) k6]) rfl).cell2
           clear s3 b3 o3 st3)
        | (go_simp; go_at_call 145; refine HP.out.mono ?_; rintro e w4 ⟨a4, k4, rfl, s4, b4⟩
           have hz4 := b4.size
           have st4 := ST3.out.keep b4
           obtain ⟨r0, r1⟩ := (st4.box 0 (w2.heap.size, [.int .i64 (n : Int), .slice a6 (phiN n) k6]) rfl).cell2
           have rz := (st4.box 0 (w2.heap.size, [.int .i64 (n : Int), .slice a6 (phiN n) k6]) rfl).2.2
           dsimp only at rz
           have S4 := Lib.hid (s4.congr (f' := cuF n (i + 1)) (fun j hj => (cu_step (n := n) (i := i) (by omega) (by omega) (by omega) hj).symm))
           have ST4 := Lib.hid (st4.boxSet (u0 := .int .i64 (n : Int)) (u1 := .slice a4 (phiN n) k4) (by omega) (by intro b hb; simp only [List.mem_cons, List.not_mem_nil, or_false] at hb; rcases hb with rfl <;> dsimp only <;> omega) (by intro s hs'; cases hs'))
           clear s4 b4 st4 HP))
      all_goals
        have S5 := Lib.hid ((S4.out.setOther (.inl (show w2.heap.size < w3.heap.size from by have := hz3; simp only [World.size_drew] at this; omega)) (.int .i64 (n : Int)) (p := ⟨w2.heap.size, 0, none⟩)).setOther (.inl (show w2.heap.size < w3.heap.size from by have := hz3; simp only [World.size_drew] at this; omega)) (.slice a4 (phiN n) k4) (p := ⟨w2.heap.size, 1, none⟩))
        clear p0 p1 pz HT HO q0 q1 r0 r1 rz S4
        go_wp2
        go_roundw
        case rel => exact ⟨i + 1, by omega, by go_num, _, _, a4, k4, by simp only [World.size_drew] at hz3; omega, .inl (by simp only [World.size_drew] at hz3; omega), S5.out, ST4.out⟩
        case measure => simp [intOf] <;> omega
    · obtain rfl : i = a := by omega
      obtain ⟨d0, d1⟩ := (HT.out.box 1 (w.heap.size, [.int .i64 0, .slice none 0 0]) rfl).cell2
      have dz := (HT.out.box 1 (w.heap.size, [.int .i64 0, .slice none 0 0]) rfl).2.2
      have BB := HT.out.1
      dsimp only at dz
      clear HT
      go_wp2
      refine bodyPost_ret (v := .tuple #[.agg #[.int .i64 (n : Int), .slice a6 (phiN n) k6], .int .i64 0]) (by simp [results, Try.results67, go_sem, d0, d1]) rfl ?_
      refine ⟨_, _, rfl, ?_, by go_grown⟩
      exact ((HO.out.setOther (.inl (by show w.heap.size < _; omega)) _).setOther (.inl (by show w.heap.size < _; omega)) _).wide (by omega) (by simpa using HO.out.size) (Nat.le_refl _)
end

section
open Go.RowKit Go.ChangeShapes
theorem fail_form {P : Program} {fn : FuncId} {args : Array Value} {w : World} {c : Int} (h : Calls P fn args w fun e w' => e = .returned (failV c) ∧ Below w.heap.size w w') :
    Calls P fn args w fun e w' => ∃ a k, e = .returned (.tuple #[.agg #[.int .i64 0, .slice a 0 k], .int .i64 c]) ∧ Sl true w' w.heap.size w'.heap.size (.slice a 0 k) 0 (fun _ => 0) ∧ Below w.heap.size w w' :=
  h.mono fun _ _ ⟨he, hb⟩ => ⟨none, 0, he, Sl.nil _ _ _ (Nat.le_refl _) _, hb⟩
end

section
open Go.RowKit Go.ChangeShapes Go.Sort
set_option linter.unusedVariables false
theorem bo_two (K : Int) (h1 : 0 ≤ K) (h2 : K ≤ 21) : ∃ a b c : Int, (∀ w, Calls Try.prog 57 #[.int .i64 K] w fun e w' => e = .returned (.tuple #[.int .i64 a, .int .i64 b, .int .i64 c]) ∧ Below w.heap.size w w') ∧ (∀ w, Calls Try.prog 58 #[.int .i64 K] w fun e w' => e = .returned (.tuple #[.int .i64 a, .int .i64 b, .int .i64 c]) ∧ Below w.heap.size w w') ∧
    ((∃ k : Nat, K = k ∧ k ≤ 20 ∧ a = (beQ k).1 ∧ b = (beQ k).2 ∧ c = 0) ∨ (a = 0 ∧ b = 0 ∧ c = 2)) := by
  obtain ⟨k, rfl⟩ := Int.eq_ofNat_of_zero_le h1
  by_cases h : k ≤ 20
  · exact ⟨_, _, _, fun w => BernoulliOf_impl_ok k h w, fun w => BernoulliOf_spec_ok k h w, .inl ⟨k, rfl, h, rfl, rfl, rfl⟩⟩
  · exact ⟨_, _, _, fun w => BernoulliOf_impl_no k (by omega) w, fun w => BernoulliOf_spec_no k (by omega) w, .inr ⟨rfl, rfl, rfl⟩⟩
theorem bm_two (P M : Int) (hP2 : P ≤ 67) (hM1 : 0 ≤ M) (hM2 : M ≤ 200) : ∃ r c : Int, (∀ w, Calls Try.prog 60 #[.int .i64 P, .int .i64 M] w fun e w' => e = .returned (.tuple #[.int .i64 r, .int .i64 c]) ∧ Below w.heap.size w w') ∧ (∀ w, Calls Try.prog 61 #[.int .i64 P, .int .i64 M] w fun e w' => e = .returned (.tuple #[.int .i64 r, .int .i64 c]) ∧ Below w.heap.size w w') ∧
    ((∃ p k : Nat, P = p ∧ M = k ∧ primeN p = true ∧ 2 ≤ k ∧ k + 3 ≤ p ∧ k % 2 = 0 ∧ r = (beR p k : Int) ∧ c = 0) ∨ (r = 0 ∧ c = 2)) := by
  have hMr : inR M := by unfold inR; omega
  by_cases hp : PrP P
  · obtain ⟨p, rfl⟩ := Int.eq_ofNat_of_zero_le hp.1
    have hP : primeN p = true := by have := hp.2; rwa [Int.toNat_natCast] at this
    obtain ⟨k, rfl⟩ := Int.eq_ofNat_of_zero_le hM1
    by_cases h : 2 ≤ (k : Int) ∧ (k : Int) ≤ (p : Int) - 3
    · obtain ⟨h2, h3⟩ := h
      by_cases ho : (k : Int) % 2 = 0
      · exact ⟨_, _, fun w => BernoulliModulo_impl_ok p k hP h2 h3 ho w, fun w => BernoulliModulo_spec_ok p k hP h2 h3 ho w, .inl ⟨p, k, rfl, rfl, hP, by omega, by omega, by omega, by rw [Int.toNat_natCast], rfl⟩⟩
      · exact ⟨_, _, fun w => BernoulliModulo_impl_od p k hP h2 h3 (by omega) w, fun w => BernoulliModulo_spec_od p k hP h2 h3 (by omega) w, .inr ⟨rfl, rfl⟩⟩
    · by_cases h2 : (k : Int) < 2
      · exact ⟨_, _, fun w => BernoulliModulo_impl_lo p k hP hMr h2 w, fun w => BernoulliModulo_spec_out p k hP hMr (.inl h2) w, .inr ⟨rfl, rfl⟩⟩
      · exact ⟨_, _, fun w => BernoulliModulo_impl_hi p k hP hMr (by omega) (by omega) w, fun w => BernoulliModulo_spec_out p k hP hMr (.inr (by omega)) w, .inr ⟨rfl, rfl⟩⟩
  · exact ⟨_, _, fun w => BernoulliModulo_impl_np P M hp w, fun w => BernoulliModulo_spec_np P M hp w, .inr ⟨rfl, rfl⟩⟩
theorem ir_two (Q : Int) : ∃ (m : Nat) (G : Nat → Int) (c : Int), (∀ w, Calls Try.prog 63 #[.int .i64 Q] w fun e w' => (∃ a k, e = .returned (.tuple #[.slice a m k, .int .i64 c]) ∧ Sl true w' w.heap.size w'.heap.size (.slice a m k) m G ∧ Below w.heap.size w w')) ∧ (∀ w, Calls Try.prog 64 #[.int .i64 Q] w fun e w' => (∃ a k, e = .returned (.tuple #[.slice a m k, .int .i64 c]) ∧ Sl true w' w.heap.size w'.heap.size (.slice a m k) m G ∧ Below w.heap.size w w')) ∧ m ≤ 1000 ∧
    ((∃ p K : Nat, Q = p ∧ primeN p = true ∧ K + 3 = p ∧ m = (irN p (K + 1)).length ∧ G = (fun i => ((irN p (K + 1)).getD i 0 : Int)) ∧ c = 0) ∨ (m = 0 ∧ c = 2)) := by
  by_cases hp : PrP Q
  · obtain ⟨p, rfl⟩ := Int.eq_ofNat_of_zero_le hp.1
    have hP : primeN p = true := by have := hp.2; rwa [Int.toNat_natCast] at this
    have hbd := primeN_bd hP
    obtain ⟨K, hK⟩ : ∃ K, K + 3 = p := ⟨p - 3, by omega⟩
    have hlen := irN_len p (K + 1)
    exact ⟨(irN p (K + 1)).length, fun i => ((irN p (K + 1)).getD i 0 : Int), 0, fun w => IrregularOf_impl_ok p K hP hK w, fun w => IrregularOf_spec_ok p K hP hK w, by omega, .inl ⟨p, K, rfl, hP, hK, rfl, rfl, rfl⟩⟩
  · exact ⟨0, fun _ => 0, 2, fun w => IrregularOf_impl_no Q hp w, fun w => IrregularOf_spec_no Q hp w, by omega, .inr ⟨rfl, rfl⟩⟩
theorem cu_two (N A : Int) : ∃ (x : Int) (m : Nat) (G : Nat → Int) (c : Int), (∀ w, Calls Try.prog 66 #[.int .i64 N, .int .i64 A] w fun e w' => (∃ a k, e = .returned (.tuple #[.agg #[.int .i64 x, .slice a m k], .int .i64 c]) ∧ Sl true w' w.heap.size w'.heap.size (.slice a m k) m G ∧ Below w.heap.size w w')) ∧ (∀ w, Calls Try.prog 67 #[.int .i64 N, .int .i64 A] w fun e w' => (∃ a k, e = .returned (.tuple #[.agg #[.int .i64 x, .slice a m k], .int .i64 c]) ∧ Sl true w' w.heap.size w'.heap.size (.slice a m k) m G ∧ Below w.heap.size w w')) ∧ m ≤ 1000 ∧
    ((∃ n a : Nat, 2 ≤ n ∧ n ≤ 16 ∧ a < n ∧ Nat.gcd a n = 1 ∧ x = n ∧ m = phiN n ∧ G = cuF n a ∧ c = 0) ∨ (c = 2)) := by
  by_cases h : cuOk N A
  · obtain ⟨h2, h16, h1, ha, hg⟩ := h
    obtain ⟨n, rfl⟩ := Int.eq_ofNat_of_zero_le (show 0 ≤ N by omega)
    obtain ⟨a, rfl⟩ := Int.eq_ofNat_of_zero_le (show 0 ≤ A by omega)
    have hp := phi_le12 n (by omega) (by omega)
    have hg' : Nat.gcd a n = 1 := by unfold gcdI at hg; rw [Int.toNat_natCast, Int.toNat_natCast] at hg; omega
    exact ⟨n, phiN n, cuF n a, 0, fun w => CyclotomicUnit_impl_ok n a (by omega) (by omega) (by omega) (by omega) hg' w, fun w => CyclotomicUnit_spec_ok n a (by omega) (by omega) (by omega) (by omega) hg' w, by omega, .inl ⟨n, a, by omega, by omega, by omega, hg', rfl, rfl, rfl, rfl⟩⟩
  · exact ⟨0, 0, fun _ => 0, 2, fun w => fail_form (CyclotomicUnit_impl_no N A h w), fun w => fail_form (CyclotomicUnit_spec_no N A h w), by omega, .inr rfl⟩
end

section
open Go.RowKit Go.ChangeShapes Go.Sort
set_option linter.unusedVariables false
set_option linter.unusedSimpArgs false

theorem Try.info136 : (Try.prog.info? 136).map (fun i => (i.zero, i.size, i.bytes)) = some (some (arrV (fun _ => 0)), 12, 96) := by kernel_rfl
theorem Try.info24 : (Try.prog.info? 24).map (fun i => (i.zero, i.size, i.bytes)) = some (some (.agg #[.int .i64 0, .slice none 0 0]), 2, 32) := by kernel_rfl
def arrL (G : Nat → Int) : List Value := (arrC G).toList
theorem arrL_len (G : Nat → Int) : (arrL G).length = 12 := rfl
theorem wpList_pushA {w : World} {ops : Array Oper} {rest : List Oper} {o : Oper} {a : Act} {Q : Exit → Act → World → Prop} (hgd : o.guard = none) (s x : Operand)
    (ho : o.op = .call { callee := .builtin .append, args := #[s, x], argTypes := #[134, 134] })
    (hty : o.type = 134) (base g cap n : Nat) (G : Nat → Nat → Int) (hs : a.eval s = .slice (some ⟨g, 0, none⟩) n cap) (hown : RowE w base 136 12 g cap n (fun i => arrL (G i))) (B : Nat) (y : Nat → Int) (hx : a.eval x = .slice (some ⟨B, 0, none⟩) 1 1)
    (hb : w.heap[B]? = some (.cells (arrC y) 136 (0, 0))) (hn : n + 1 ≤ 1048576)
    (h : ∀ g' cap' w', RowE w' base 136 12 g' cap' (n + 1) (fun i => if i < n then arrL (G i) else arrL y) → w.grownBy w' (some g) → (g' = g ∨ g' = w.heap.size) → g' < w'.heap.size → wpList Try.prog ops Q rest (a.put o.dst (.slice (some ⟨g', 0, none⟩) (n + 1) cap')) w') : wpList Try.prog ops Q (o :: rest) a w := by
  obtain ⟨i0, hi, hz0, hz1, hz2⟩ := info_parts Try.info136
  refine wpList_append_lies w hgd s x 134 ho base 136 i0 (arrV (fun _ => 0)) 12 96 Try.underlying134 hi hz0 hz1 hz2 rfl (by decide) _ n _ hs hown ⟨B, 0, none⟩ 1 1 (arrL y) hx rfl (World.news_of_block hb) (by simp [arrL, arrC, Value.oneCell']) (by decide) (by unfold maxLen; omega) (by omega) (Nat.le_trans hown.lt.1 (Nat.le_of_lt hown.lt.2)) _ rfl ?_
  intro g' cap' w' h1 h2 h3 h4
  refine h g' cap' w' ?_ h2 (h3.imp (fun e => (Option.some.inj e).symm) id) h4
  unfold RowE
  rw [List.range_succ, List.flatMap_append]
  have e1 : (List.range n).flatMap (fun i => if i < n then arrL (G i) else arrL y) = (List.range n).flatMap (fun i => arrL (G i)) := by
    rw [List.flatMap_def, List.flatMap_def]
    exact congrArg List.flatten (List.map_congr_left (fun j hj => by rw [if_pos (List.mem_range.1 hj)]))
  rw [e1]
  simpa using h1
theorem wpList_pushC {w : World} {ops : Array Oper} {rest : List Oper} {o : Oper} {a : Act} {Q : Exit → Act → World → Prop} (hgd : o.guard = none) (s x : Operand)
    (ho : o.op = .call { callee := .builtin .append, args := #[s, x], argTypes := #[86, 86] })
    (hty : o.type = 86) (base g cap n : Nat) (N : Nat → Int) (V : Nat → Value) (hs : a.eval s = .slice (some ⟨g, 0, none⟩) n cap) (hown : RowE w base 24 2 g cap n (fun i => [.int .i64 (N i), V i])) (B : Nat) (y : Int) (u : Value) (hu : u.oneCell' = true) (hx : a.eval x = .slice (some ⟨B, 0, none⟩) 1 1)
    (hb : w.heap[B]? = some (.cells #[.int .i64 y, u] 24 (0, 0))) (hn : n + 1 ≤ 1048576)
    (h : ∀ g' cap' w', RowE w' base 24 2 g' cap' (n + 1) (fun i => if i < n then [.int .i64 (N i), V i] else [.int .i64 y, u]) → w.grownBy w' (some g) → (g' = g ∨ g' = w.heap.size) → g' < w'.heap.size → wpList Try.prog ops Q rest (a.put o.dst (.slice (some ⟨g', 0, none⟩) (n + 1) cap')) w') : wpList Try.prog ops Q (o :: rest) a w := by
  obtain ⟨i0, hi, hz0, hz1, hz2⟩ := info_parts Try.info24
  refine wpList_append_lies w hgd s x 86 ho base 24 i0 (.agg #[.int .i64 0, .slice none 0 0]) 2 32 Try.underlying86 hi hz0 hz1 hz2 rfl (by decide) _ n _ hs hown ⟨B, 0, none⟩ 1 1 [.int .i64 y, u] hx rfl (World.news_of_block hb) (by intro v hv; simp only [List.mem_cons, List.not_mem_nil, or_false] at hv; rcases hv with rfl | rfl; rfl; exact hu) (by decide) (by unfold maxLen; omega) (by omega) (Nat.le_trans hown.lt.1 (Nat.le_of_lt hown.lt.2)) _ rfl ?_
  intro g' cap' w' h1 h2 h3 h4
  refine h g' cap' w' ?_ h2 (h3.imp (fun e => (Option.some.inj e).symm) id) h4
  unfold RowE
  rw [List.range_succ, List.flatMap_append]
  have e1 : (List.range n).flatMap (fun i => if i < n then [.int .i64 (N i), V i] else [.int .i64 y, u]) = (List.range n).flatMap (fun i => [.int .i64 (N i), V i]) := by
    rw [List.flatMap_def, List.flatMap_def]
    exact congrArg List.flatten (List.map_congr_left (fun j hj => by rw [if_pos (List.mem_range.1 hj)]))
  rw [e1]
  simpa using h1
end

section
open Go.RowKit Go.ChangeShapes Go.Sort
set_option linter.unusedVariables false
set_option linter.unusedSimpArgs false

/-- The image at the place k, as an array. -/
def imA (n L : Nat) (f : Nat → Int) (k : Nat) : Nat → Int := cut (phiN n) (im n L f k)
section
variable {o : Bool} {lo hi L : Nat} {v : Value} {f : Nat → Int}
set_option maxRecDepth 100000 in
set_option maxHeartbeats 1000000 in
theorem imagesOf_any (n : Nat) (h1 : 1 ≤ n) (h2 : n ≤ 16) (w : World) (hs : Sl o w lo hi v L f) (hL : L ≤ 24) :
    Calls Try.prog 132 #[.agg #[.int .i64 (n : Int), v]] w fun e w' => ∃ (g cap : Nat), e = .returned (.slice (some ⟨g, 0, none⟩) (phiN n) cap) ∧ RowE w' w.heap.size 136 12 g cap (phiN n) (fun k => arrL (imA n L f k)) ∧ Below w.heap.size w w' := by
  obtain ⟨av, cap0, rfl⟩ := hs.shape
  have hhs := hs.size
  have hp := phi_le12 n h2 h1
  have st0 := ((((St.start w).addSl ⟨o, lo, hi, .slice av L cap0, L, f⟩ hs).alloc (.cells #[.int .i64 (n : Int), .slice av L cap0] 24)).addBox w.heap.size [.int .i64 (n : Int), .slice av L cap0] (Box.made _ _ _ _ (fun j v h => by simpa using h))).alloc (.cells #[] 136)
  have r0 := RowE.made (w.alloc (.cells #[.int .i64 (n : Int), .slice av L cap0] 24)) (w.heap.size + 1) 136 12 (fun k => arrL (imA n L f k)) (by simp)
  simp only [World.size_alloc] at r0
  obtain ⟨x0, x1⟩ := (st0.box 0 (w.heap.size, [.int .i64 (n : Int), .slice av L cap0]) rfl).cell2
  clear hs
  go_enter Try.func132, Try.ntmps132
  go_wp2_with fail
  refine (residuesOf_any n h1 h2 _).mono ?_
  rintro e w1 ⟨gr, kr, rfl, s1, b1⟩
  have hz1 := b1.size
  simp only [World.size_alloc] at s1 hz1
  have st1 := (st0.keep b1).addSl ⟨true, w.heap.size + 1 + 1, w1.heap.size, .slice (some ⟨gr, 0, none⟩) (phiN n) kr, phiN n, fun k => (res n k : Int)⟩ s1
  have r1 := r0.keep b1 (Nat.le_refl _)
  have HR := Lib.hid r1
  have HST := Lib.hid st1
  clear st0 r0 b1 s1 st1 r1 x0 x1
  go_wp2
  go_loopw [3, 11] (fun s3 s11 wr => ∃ (k g cap : Nat), k ≤ phiN n ∧ s3 = .slice (some ⟨g, 0, none⟩) k cap ∧ s11 = .int .i64 k ∧ RowE wr (w.heap.size + 1) 136 12 g cap k (fun k => arrL (imA n L f k)) ∧ (g < w.heap.size + 1 + 1 ∨ w1.heap.size ≤ g) ∧
      St w wr [(w.heap.size, [.int .i64 (n : Int), .slice av L cap0])] [⟨true, w.heap.size + 1 + 1, w1.heap.size, .slice (some ⟨gr, 0, none⟩) (phiN n) kr, phiN n, fun k => (res n k : Int)⟩, ⟨o, lo, hi, .slice av L cap0, L, f⟩]) (fun _ s11 _ => phiN n - (intOf s11).toNat)
  case atStart => exact ⟨0, _, _, Nat.zero_le _, rfl, rfl, HR.out, .inl (by omega), HST.out⟩
  case round =>
    clear HR HST
    obtain ⟨k, g, cap, hk, rfl, rfl, hr, hd, hst⟩ := hrel
    have R1 := Lib.hid hr; clear hr
    have HT := Lib.hid hst; clear hst
    obtain ⟨hl, hl'⟩ := R1.out.lt
    have hw1 := (HT.out.sl 0 ⟨true, w.heap.size + 1 + 1, w1.heap.size, .slice (some ⟨gr, 0, none⟩) (phiN n) kr, phiN n, fun k => (res n k : Int)⟩ rfl).size
    dsimp only at hw1
    by_cases hlt : k < phiN n
    · have hrk := ((HT.out.sl 0 ⟨true, w.heap.size + 1 + 1, w1.heap.size, .slice (some ⟨gr, 0, none⟩) (phiN n) kr, phiN n, fun k => (res n k : Int)⟩ rfl).known (by show 0 < phiN n; omega)).2.2.2.1 k hlt
      have hra := Lib.hid (res_ok n (by omega) h1 k hlt)
      dsimp only at hrk
      rw [Nat.zero_add] at hrk
      obtain ⟨x0, x1⟩ := (HT.out.box 0 (w.heap.size, [.int .i64 (n : Int), .slice av L cap0]) rfl).cell2
      have hk2 : (k : Int) < (phiN n : Int) := by omega
      have qx := HT.out.sl 1 ⟨o, lo, hi, .slice av L cap0, L, f⟩ rfl
      dsimp only at qx
      have HI := Lib.hid (imageParts_any n (res n k) h1 h2 (by have := hra.out; omega) wr qx hL)
      have hiA : cut (phiN n) (imgP n (res n k) L f) = imA n L f k := rfl
      rw [hiA] at HI
      clear hiA qx
      have HG := Lib.hid (rfl : imA n L f k = imA n L f k)
      generalize hGe : imA n L f k = G at HI
      have HGe := Lib.hid hGe; clear hGe
      unfold arrV at HI
      go_wp2_with fail
      refine HI.out.mono ?_
      rintro e w2 ⟨rfl, b2⟩
      have hz2 := b2.size
      have R2 := Lib.hid ((R1.out.keep b2 (Nat.le_refl _)))
      have HT2 := Lib.hid (HT.out.keep b2)
      clear b2 R1 HT x0 x1 hrk
      go_wp2_with (first
        | (at_builtin; refine wpList_pushA rfl (.tmp 15) (.tmp 19) rfl rfl (w.heap.size + 1) g cap k (imA n L f) rfl (R2.out.alloc _) w2.heap.size G rfl (heap_alloc_new w2 _) (by omega) ?_; intro gA kA wA rowA grA orA ltA
           have stA := (HT2.out.alloc (.cells (arrC G) 136)).write (Frame.ofGrown grA) (by omega) (by intro b hb; simp only [List.mem_cons, List.not_mem_nil, or_false] at hb; rcases hb with rfl <;> dsimp only <;> omega) (by intro s hs'; simp only [List.mem_cons, List.not_mem_nil, or_false] at hs'; rcases hs' with rfl | rfl <;> dsimp only <;> omega)
           have STA := Lib.hid stA
           have RA := Lib.hid rowA
           have hzA := grA.size
           simp only [World.size_alloc] at orA hzA
           clear stA rowA grA))
      go_roundw
      case rel =>
        refine ⟨k + 1, gA, kA, by omega, rfl, by go_num, RA.out.congr (fun j hj => ?_), by omega, STA.out⟩
        by_cases e : j < k
        · rw [if_pos e]
        · obtain rfl : j = k := by omega
          rw [if_neg e, HGe.out]
      case measure => simp [intOf] <;> omega
    · obtain rfl : k = phiN n := by omega
      have BB := HT.out.1
      go_wp2
      go_ret
      exact ⟨g, cap, rfl, ⟨R1.out.1, by
        rcases R1.out.2 with h | ⟨g', cap', cur, hv, hb, r⟩
        · exact .inl h
        · exact .inr ⟨g', cap', cur, hv, by omega, r⟩⟩, BB⟩
end
end

section
open Go.RowKit Go.ChangeShapes Go.Sort
set_option linter.unusedVariables false
set_option linter.unusedSimpArgs false

/-- Slices of the call's own, one for each element of a list, that lie apart from two blocks. -/
def Sls (w : World) (base g g2 m N : Nat) (vs : Nat → Value) (F : Nat → Nat → Int) : Prop :=
  ∀ i, i < m → ∃ lo hi, base ≤ lo ∧ (g < lo ∨ hi ≤ g) ∧ (g2 < lo ∨ hi ≤ g2) ∧ Sl true w lo hi (vs i) N (F i)
section
variable {w w' : World} {base g g2 m N : Nat} {vs : Nat → Value} {F : Nat → Nat → Int}
theorem Sls.keep {B : Nat} (h : Sls w base g g2 m N vs F) (hb : Below B w w') (hB : w.heap.size ≤ B) : Sls w' base g g2 m N vs F := fun i hi => by
  obtain ⟨lo, hi', h1, h2, h3, h4⟩ := h i hi
  exact ⟨lo, hi', h1, h2, h3, h4.keep hb (Nat.le_trans h4.size hB)⟩
theorem Sls.alloc (h : Sls w base g g2 m N vs F) (ob : Obj) : Sls (w.alloc ob) base g g2 m N vs F := h.keep ((Below.refl _ _).alloc (Nat.le_refl _) _) (Nat.le_refl _)
/-- The first list's block is written or moves. -/
theorem Sls.grown1 {g' : Nat} (h : Sls w base g g2 m N vs F) (hg : w.grownBy w' (some g)) (ho : g' = g ∨ g' = w.heap.size) : Sls w' base g' g2 m N vs F := fun i hi => by
  obtain ⟨lo, hi', h1, h2, h3, h4⟩ := h i hi
  have := h4.size
  exact ⟨lo, hi', h1, by omega, h3, h4.keepF (Frame.ofGrown hg) (by omega)⟩
theorem Sls.grown2 {g' : Nat} (h : Sls w base g g2 m N vs F) (hg : w.grownBy w' (some g2)) (ho : g' = g2 ∨ g' = w.heap.size) : Sls w' base g g' m N vs F := fun i hi => by
  obtain ⟨lo, hi', h1, h2, h3, h4⟩ := h i hi
  have := h4.size
  exact ⟨lo, hi', h1, h2, by omega, h4.keepF (Frame.ofGrown hg) (by omega)⟩
theorem Sls.push {lo hi : Nat} {u : Value} (h : Sls w base g g2 m N vs F) (hs : Sl true w lo hi u N (F m)) (h1 : base ≤ lo) (h2 : g < lo ∨ hi ≤ g) (h3 : g2 < lo ∨ hi ≤ g2) : Sls w base g g2 (m + 1) N (fun i => if i < m then vs i else u) F := fun i hi' => by
  by_cases e : i < m
  · obtain ⟨l, h, q⟩ := h i e
    exact ⟨l, h, by dsimp only; rw [if_pos e]; exact q⟩
  · obtain rfl : i = m := by omega
    exact ⟨lo, hi, h1, h2, h3, by dsimp only; rw [if_neg e]; exact hs⟩
end
theorem Row.keepF {w w' : World} {base g cap n lo hi : Nat} {f : Nat → Int} (h : Row w base g cap n f) (hf : Frame lo hi w w') (hd : g < lo ∨ hi ≤ g) : Row w' base g cap n f := by
  have hl := h.lt
  refine ⟨h.1, ?_⟩
  rcases h.2 with h2 | ⟨g', cap', cur, hv, hb, hh, r⟩
  · exact .inl h2
  · refine .inr ⟨g', cap', cur, hv, hb, ?_, r⟩
    cases hv
    rw [hf.block g hl.2 hd]; exact hh
theorem Row.keep {w w' : World} {base g cap n B : Nat} {f : Nat → Int} (h : Row w base g cap n f) (hb : Below B w w') (hB : w.heap.size ≤ B) : Row w' base g cap n f :=
  h.keepF (Frame.of_below (lo := w'.heap.size + g + 1) (hi := 0) hb hB) (by omega)
theorem Row.low {w : World} {base base' g cap n : Nat} {f : Nat → Int} (h : Row w base g cap n f) (hb : base' ≤ base) : Row w base' g cap n f := by
  refine ⟨h.1, ?_⟩
  rcases h.2 with h2 | ⟨g', cap', cur, hv, hb', r⟩
  · exact .inl h2
  · exact .inr ⟨g', cap', cur, hv, by omega, r⟩
theorem RowE.low {w : World} {base base' : Nat} {e : TypeId} {sz g cap m : Nat} {F : Nat → List Value} (h : RowE w base e sz g cap m F) (hb : base' ≤ base) : RowE w base' e sz g cap m F := by
  refine ⟨h.1, ?_⟩
  rcases h.2 with h2 | ⟨g', cap', cur, hv, hb', r⟩
  · exact .inl h2
  · exact .inr ⟨g', cap', cur, hv, by omega, r⟩
section
variable {o : Bool} {lo hi L : Nat} {v : Value} {f : Nat → Int}
theorem fold_nat {n a L : Nat} {f : Nat → Int} (h1 : 1 ≤ n) : redP n (foldP (ixG n (a : Int)) f L) = imgP n a L f := by
  unfold imgP
  rw [foldP_congr (ix' := ixI n a) (f' := f) (fun i _ => ⟨ixG_nat n a i h1, rfl⟩)]
end
end

section
open Go.RowKit Go.ChangeShapes Go.Sort
set_option linter.unusedVariables false
set_option linter.unusedSimpArgs false

set_option maxRecDepth 100000 in
set_option maxHeartbeats 1000000 in
theorem oneOf_any (n : Nat) (h1 : 1 ≤ n) (hn : n ≤ 16) (w : World) :
    Calls Try.prog 178 #[.int .i64 (n : Int)] w fun e w' => ∃ a cap, e = .returned (.agg #[.int .i64 (n : Int), .slice a (phiN n) cap]) ∧ Sl true w' w.heap.size w'.heap.size (.slice a (phiN n) cap) (phiN n) one0 ∧ Below w.heap.size w w' := by
  have hp := phi_le12 n hn h1
  have hp1 := phiN_pos n (by omega) h1
  have HT := Lib.hid (fun w => totient_below n w (by omega))
  generalize phiN n = N at *
  have hmk := run_make_row' (P := Try.prog) 22 2 (.int .i64 0) 8 Try.underlying22 Try.info2 rfl .i64 .i64 N (by omega) (by omega)
  have st0 := (St.start w).boxNew (.int .i64 0) (.slice none 0 0) 24
  go_enter Try.func178, Try.ntmps178
  go_wp2_with fail
  refine (HT.out _).mono ?_
  rintro e w4 ⟨rfl, b4⟩
  have st4 := st0.keep b4
  have hz4 := b4.size
  simp only [World.size_alloc] at hz4
  clear st0 b4
  have hml : (madeCells #[Value.int .i64 0] N).size = N := by simp [madeCells]
  have hsl := Sl.made w4 ((madeCells #[.int .i64 0] N).setIfInBounds 0 (.int .i64 1)) 2 N N one0 (Nat.le_refl _) (by unfold maxLen; omega) (fun j _ => by unfold one0 inR; split <;> decide) (fun j hj => by
    rw [Array.getElem?_setIfInBounds]
    unfold one0
    by_cases e : j = 0
    · subst e; rw [if_pos rfl, if_pos rfl, if_pos (by omega)]
    · rw [if_neg (fun h => e h.symm), if_neg e]; exact madeCells_at _ _ _ hj)
  have st5 := ((st4.alloc (.cells ((madeCells #[.int .i64 0] N).setIfInBounds 0 (.int .i64 1)) 2)).addSl ⟨true, w4.heap.size, w4.heap.size + 1, .slice (some ⟨w4.heap.size, 0, none⟩) N N, N, one0⟩ hsl).boxNew (.int .i64 (n : Int)) (.slice (some ⟨w4.heap.size, 0, none⟩) N N) 24
  simp only [World.size_alloc] at st5
  obtain ⟨c0, c1⟩ := (st5.box 0 _ rfl).cell2
  obtain ⟨d0, d1⟩ := (st5.box 1 _ rfl).cell2
  have dz := (st5.box 1 _ rfl).2.2
  have BB := st5.1
  have q0 := st5.sl 0 _ rfl
  dsimp only at c0 c1 d0 d1 dz q0
  have HQ := Lib.hid q0
  have p0 := (Sl.made w4 (madeCells #[.int .i64 0] N) 2 N N (fun _ => 0) (Nat.le_refl _) (by unfold maxLen; omega) (fun _ _ => by simp [inR]) (fun j hj => madeCells_at _ _ _ hj)).alloc (.cells #[.int .i64 (n : Int), .slice (some ⟨w4.heap.size, 0, none⟩) N N] 24)
  have k0 := (p0.known (by omega)).2.2.2.1 0 (by omega)
  have z0 := (p0.known (by omega)).2.2.2.2 rfl 0
  try rw [Nat.zero_add] at k0
  clear st4 st5 hsl q0 hml p0
  go_wp2
  refine bodyPost_ret (v := .agg #[.int .i64 (n : Int), .slice (some ⟨w4.heap.size, 0, none⟩) N N]) (by simp [results, Try.results178, go_sem, d0, d1]) rfl ?_
  refine ⟨_, _, rfl, ?_, by go_grown⟩
  exact ((HQ.out.setOther (.inl (by show w.heap.size < _; omega)) _).setOther (.inl (by show w.heap.size < _; omega)) _).wide (by omega) (by simp) (Nat.le_refl _)
end

section
open Go.RowKit Go.ChangeShapes Go.Sort
set_option linter.unusedVariables false
set_option linter.unusedSimpArgs false

/-- All products on the way keep the limit. -/
def prOk (n L : Nat) (f : Nat → Int) (s k : Nat) : Prop := ∀ i, i < k → Within (prI n L f s (i + 1)) (phiN n) 1000000000
theorem prOk_zero (n L : Nat) (f : Nat → Int) (s : Nat) : prOk n L f s 0 := fun i hi => absurd hi (Nat.not_lt_zero _)
theorem prOk_succ {n L : Nat} {f : Nat → Int} {s k : Nat} (h : prOk n L f s k) (hw : Within (prI n L f s (k + 1)) (phiN n) 1000000000) : prOk n L f s (k + 1) := fun i hi => by
  rcases Nat.lt_succ_iff_lt_or_eq.1 hi with h1 | rfl
  · exact h i h1
  · exact hw
theorem one0_within (N : Nat) : Within one0 N 1000000000 := fun j _ => by unfold one0; split <;> omega
theorem prI_within {n L : Nat} {f : Nat → Int} {s : Nat} : ∀ {k : Nat}, prOk n L f s k → Within (prI n L f s k) (phiN n) 1000000000
  | 0, _ => one0_within _
  | k + 1, h => h k (Nat.lt_succ_self _)
theorem prI_imA {n L : Nat} {f : Nat → Int} (s k : Nat) : prodZ n (phiN n) (prI n L f s k) (imA n L f (s + k)) = prI n L f s (k + 1) :=
  pz_congr (fun _ _ => rfl) (fun j hj => by unfold imA cut; rw [if_pos hj])
theorem imA_big {n L : Nat} {f : Nat → Int} (hn : n < 17) (h1 : 1 ≤ n) (hf : Within f L 1000000000) (hL : L ≤ 12) (k : Nat) : Within (imA n L f k) 12 12000000000 := fun j hj => by
  unfold imA cut
  split
  · exact im_big hn h1 hf hL k j (by assumption)
  · omega
theorem imA_far {n L : Nat} {f : Nat → Int} (k j : Nat) (h : phiN n ≤ j) : imA n L f k j = 0 := by
  unfold imA cut; rw [if_neg (by omega)]
theorem RowE.elem {w : World} {base g cap m k : Nat} {G : Nat → Nat → Int} (h : RowE w base 136 12 g cap m (fun k => arrL (G k))) (hk : k < m) (hr : ∀ j, j < 12 → inR (G k j)) :
    Sl true w g (g + 1) (.slice (some ⟨g, k * 12, none⟩) 12 12) 12 (G k) :=
  ⟨h.lt.2, by unfold maxLen; omega, hr, .inr ⟨g, k * 12, 12, rfl, Nat.le_refl _, Nat.lt_succ_self _, Nat.le_refl _, by unfold maxLen; omega, fun j hj => by
    rw [h.cell (fun _ => arrL_len _) hk hj]
    show (arrC (G k)).toList[j]? = _
    rw [Array.getElem?_toList]
    exact arrC_get _ _ hj, fun _ k => h.frozen k⟩⟩

section
variable {L : Nat} {f : Nat → Int}
set_option maxRecDepth 100000 in
set_option maxHeartbeats 4000000 in
theorem productOfImages_any (n : Nat) (h1 : 1 ≤ n) (h2 : n ≤ 16) (w : World) {base g cap t s m cap2 off : Nat} (hR : RowE w base 136 12 g cap t (fun k => arrL (imA n L f k))) (hoff : 0 < m → off = s * 12) (hst : s + m ≤ t) (ht : t ≤ 12) (hf : Within f L 1000000000) (hL : L ≤ 12) :
    Calls Try.prog 128 #[.int .i64 (n : Int), .slice (some ⟨g, off, none⟩) m cap2] w fun e w' => ((prOk n L f s m ∧ ∃ a' cap', e = .returned (.tuple #[.agg #[.int .i64 (n : Int), .slice a' (phiN n) cap'], .int .i64 0]) ∧ Sl true w' w.heap.size w'.heap.size (.slice a' (phiN n) cap') (phiN n) (prI n L f s m)) ∨ (¬ prOk n L f s m ∧ e = .returned (failV 3))) ∧ Below w.heap.size w w' := by
  have hp := phi_le12 n h2 h1
  have hp0 := phiN_pos n (by omega) h1
  have HIM := Lib.hid (fun k => imA_big (n := n) (L := L) (f := f) (by omega) h1 hf hL k)
  have hg := hR.lt.2
  have HR := Lib.hid hR
  have HOFF := Lib.hid hoff
  clear hR hf hoff
  have st0 := (St.start w).boxNew (.int .i64 0) (.slice none 0 0) 24
  go_enter Try.func128, Try.ntmps128
  go_wp2_with fail
  refine (oneOf_any n h1 h2 _).mono ?_
  rintro e w2 ⟨a2, k2, rfl, s2, b2⟩
  have hz2 := b2.size
  simp only [World.size_alloc] at hz2 s2
  have HS2 := Lib.hid (s2.alloc (.cells #[.int .i64 (n : Int), .slice a2 (phiN n) k2] 24))
  have ST2 := Lib.hid ((st0.keep b2).boxNew (.int .i64 (n : Int)) (.slice a2 (phiN n) k2) 24)
  have HR2 := Lib.hid (((HR.out.alloc (.cells #[.int .i64 0, .slice none 0 0] 24)).keep b2 (Nat.le_refl _)).alloc (.cells #[.int .i64 (n : Int), .slice a2 (phiN n) k2] 24))
  clear st0 b2 s2 HR
  go_wp2
  go_loopw [7, 8] (fun s7 s8 wr => ∃ i : Nat, i ≤ m ∧ s8 = .int .i64 i ∧ RowE wr base 136 12 g cap t (fun k => arrL (imA n L f k)) ∧
      ((prOk n L f s i ∧ s7 = .int .i64 0 ∧ ∃ (lo6 hi6 : Nat) (a6 : Option Addr) (k6 : Nat), w.heap.size + 1 ≤ lo6 ∧ (w2.heap.size < lo6 ∨ hi6 ≤ w2.heap.size) ∧ Sl true wr lo6 hi6 (.slice a6 (phiN n) k6) (phiN n) (prI n L f s i) ∧ St w wr [(w2.heap.size, [.int .i64 (n : Int), .slice a6 (phiN n) k6]), (w.heap.size, [.int .i64 0, .slice none 0 0])] []) ∨
       (¬ prOk n L f s m ∧ s7 = .int .i64 3 ∧ St w wr [(w2.heap.size, [.int .i64 0, .slice none 0 0]), (w.heap.size, [.int .i64 0, .slice none 0 0])] []))) (fun s7 s8 _ => m - (intOf s8).toNat)
  case atStart => exact ⟨0, Nat.zero_le _, rfl, HR2.out, .inl ⟨prOk_zero _ _ _ _, rfl, _, _, a2, k2, by omega, .inr (Nat.le_refl _), HS2.out, ST2.out⟩⟩
  case round =>
    clear HS2 ST2 HR2
    obtain ⟨i, him, rfl, hrow, hr⟩ := hrel
    have R1 := Lib.hid hrow; clear hrow
    rcases hr with ⟨hok, rfl, lo6, hi6, a6, k6, hl6, hd6, hown, hst6⟩ | ⟨hbad, rfl, hst6⟩
    · have HO := Lib.hid hown; clear hown
      have HT := Lib.hid hst6; clear hst6
      have HOK := Lib.hid hok; clear hok
      obtain ⟨p0, p1⟩ := (HT.out.box 0 (w2.heap.size, [.int .i64 (n : Int), .slice a6 (phiN n) k6]) rfl).cell2
      have pz := (HT.out.box 0 (w2.heap.size, [.int .i64 (n : Int), .slice a6 (phiN n) k6]) rfl).2.2
      have pl := (HT.out.box 0 (w2.heap.size, [.int .i64 (n : Int), .slice a6 (phiN n) k6]) rfl).1
      dsimp only at pz pl
      by_cases hlt : i < m
      · have hi12 : (i : Int) < (m : Int) := by omega
        have hme : m ≤ 1048576 := by omega
        have HE := Lib.hid (show Sl true wr.drew g (g + 1) (.slice (some ⟨g, off + i * 12, none⟩) 12 12) 12 (imA n L f (s + i)) from by
          have := (R1.out.elem (k := s + i) (by omega) (fun j hj => by have := HIM.out (s + i) j hj; unfold inR; omega)).drew
          rwa [show off + i * 12 = (s + i) * 12 by have := HOFF.out (by omega); omega])
        by_cases hw : Within (prI n L f s (i + 1)) (phiN n) 1000000000
        · have HPW := Lib.hid (productWithin_ok n h1 h2 wr.drew HO.out.drew HE.out (Within.big (prI_within HOK.out)) (HIM.out (s + i)) hp0 hp (Nat.le_refl _) (fun j h3 h4 => imA_far _ j h3) (by rw [prI_imA]; exact hw))
          rw [prI_imA] at HPW
          have HN := Lib.hid (prOk_succ HOK.out hw)
          clear hw
          go_wp2_with fail
          go_region_law (first
              | (go_simp; go_at_call 179; refine HPW.out.mono ?_; rintro e w3 ⟨a3, k3, rfl, s3, b3⟩
                 have hz3 := b3.size
                 have st3 := HT.out.drew.keep b3
                 obtain ⟨q0, q1⟩ := (st3.box 0 (w2.heap.size, [.int .i64 (n : Int), .slice a6 (phiN n) k6]) rfl).cell2
                 have qz := (st3.box 0 (w2.heap.size, [.int .i64 (n : Int), .slice a6 (phiN n) k6]) rfl).2.2
                 dsimp only at qz))
          have R3 := (((R1.out.drewN 1).keep b3 (Nat.le_refl _)).keepF (((Frame.refl w2.heap.size (w2.heap.size + 1) w3).setCell (Nat.le_refl _) (Nat.lt_succ_self _) (.int .i64 (n : Int)) (p := ⟨w2.heap.size, 0, none⟩)).setCell (Nat.le_refl _) (Nat.lt_succ_self _) (.slice a3 (phiN n) k3) (p := ⟨w2.heap.size, 1, none⟩)) (by omega))
          have RR3 := Lib.hid R3
          have S3 := Lib.hid s3
          have ST3 := Lib.hid (st3.boxSet (u0 := .int .i64 (n : Int)) (u1 := .slice a3 (phiN n) k3) (by omega) (by intro b hb; simp only [List.mem_cons, List.not_mem_nil, or_false] at hb; rcases hb with rfl <;> dsimp only <;> omega) (by intro s hs'; cases hs'))
          clear st3 b3 s3 R3 HT HO q0 q1 qz
          go_wp2
          go_roundw
          case rel =>
            exact ⟨i + 1, by omega, by go_num, RR3.out, .inl ⟨HN.out, rfl, _, _, a3, k3, by omega, .inl pl, (S3.out.setOther (.inl pl) _).setOther (.inl pl) _, ST3.out⟩⟩
          case measure => simp [intOf] <;> omega
        · have HPW := Lib.hid (productWithin_big n h1 h2 wr.drew HO.out.drew HE.out (Within.big (prI_within HOK.out)) (HIM.out (s + i)) hp0 hp (Nat.le_refl _) (fun j h3 h4 => imA_far _ j h3) (by rw [prI_imA]; exact hw))
          have HN := Lib.hid (show ¬ prOk n L f s m from fun h => hw (h i hlt))
          clear hw
          go_wp2_with fail
          go_region_law (first
              | (go_simp; go_at_call 179; refine HPW.out.mono ?_; rintro e w3 ⟨rfl, b3⟩
                 unfold failV
                 have hz3 := b3.size
                 have st3 := HT.out.drew.keep b3
                 obtain ⟨q0, q1⟩ := (st3.box 0 (w2.heap.size, [.int .i64 (n : Int), .slice a6 (phiN n) k6]) rfl).cell2
                 have qz := (st3.box 0 (w2.heap.size, [.int .i64 (n : Int), .slice a6 (phiN n) k6]) rfl).2.2
                 dsimp only at qz))
          have R3 := (((R1.out.drewN 1).keep b3 (Nat.le_refl _)).keepF (((Frame.refl w2.heap.size (w2.heap.size + 1) w3).setCell (Nat.le_refl _) (Nat.lt_succ_self _) (.int .i64 0) (p := ⟨w2.heap.size, 0, none⟩)).setCell (Nat.le_refl _) (Nat.lt_succ_self _) (.slice none 0 0) (p := ⟨w2.heap.size, 1, none⟩)) (by omega))
          have RR3 := Lib.hid R3
          have ST3 := Lib.hid (st3.boxSet (u0 := .int .i64 0) (u1 := .slice none 0 0) (by omega) (by intro b hb; simp only [List.mem_cons, List.not_mem_nil, or_false] at hb; rcases hb with rfl <;> dsimp only <;> omega) (by intro s hs'; cases hs'))
          clear st3 b3 R3 HT HO q0 q1 qz
          go_wp2
          go_roundw
          case rel =>
            exact ⟨i + 1, by omega, by go_num, RR3.out, .inr ⟨HN.out, rfl, ST3.out⟩⟩
          case measure => simp [intOf] <;> omega
      · obtain rfl : i = m := by omega
        obtain ⟨d0, d1⟩ := (HT.out.box 1 (w.heap.size, [.int .i64 0, .slice none 0 0]) rfl).cell2
        have dz := (HT.out.box 1 (w.heap.size, [.int .i64 0, .slice none 0 0]) rfl).2.2
        have BB := HT.out.1
        dsimp only at dz
        clear HT
        go_wp2
        refine bodyPost_ret (v := .tuple #[.agg #[.int .i64 (n : Int), .slice a6 (phiN n) k6], .int .i64 0]) (by simp [results, Try.results128, go_sem, d0, d1]) rfl ?_
        refine ⟨.inl ⟨HOK.out, _, _, rfl, ?_⟩, by go_grown⟩
        exact ((HO.out.setOther (.inl (by show w.heap.size < _; omega)) _).setOther (.inl (by show w.heap.size < _; omega)) _).wide (by omega) (by simpa using HO.out.size) (Nat.le_refl _)
    · obtain ⟨p0, p1⟩ := (hst6.box 0 (w2.heap.size, [.int .i64 0, .slice none 0 0]) rfl).cell2
      obtain ⟨d0, d1⟩ := (hst6.box 1 (w.heap.size, [.int .i64 0, .slice none 0 0]) rfl).cell2
      have dz := (hst6.box 1 (w.heap.size, [.int .i64 0, .slice none 0 0]) rfl).2.2
      have BB := hst6.1
      have HN := Lib.hid hbad
      dsimp only at dz
      clear hst6 hbad
      by_cases hlast : i < m
      · go_wp2
        refine bodyPost_ret (v := failV 3) (by simp [results, Try.results128, go_sem, failV, d0, d1]) rfl ?_
        exact ⟨.inr ⟨HN.out, rfl⟩, by go_grown⟩
      · go_wp2
        refine bodyPost_ret (v := failV 3) (by simp [results, Try.results128, go_sem, failV, d0, d1]) rfl ?_
        exact ⟨.inr ⟨HN.out, rfl⟩, by go_grown⟩
end
end

section
open Go.RowKit Go.ChangeShapes Go.Sort
set_option linter.unusedVariables false
set_option linter.unusedSimpArgs false
section
variable {o : Bool} {lo hi L : Nat} {v : Value} {f : Nat → Int}
theorem productOfImages_ok (n : Nat) (h1 : 1 ≤ n) (h2 : n ≤ 16) (w : World) {base g cap t s m cap2 off : Nat} (hR : RowE w base 136 12 g cap t (fun k => arrL (imA n L f k))) (hoff : 0 < m → off = s * 12) (hst : s + m ≤ t) (ht : t ≤ 12) (hf : Within f L 1000000000) (hL : L ≤ 12) (hk : prOk n L f s m) :
    Calls Try.prog 128 #[.int .i64 (n : Int), .slice (some ⟨g, off, none⟩) m cap2] w fun e w' => ∃ a' cap', e = .returned (.tuple #[.agg #[.int .i64 (n : Int), .slice a' (phiN n) cap'], .int .i64 0]) ∧ Sl true w' w.heap.size w'.heap.size (.slice a' (phiN n) cap') (phiN n) (prI n L f s m) ∧ Below w.heap.size w w' :=
  (productOfImages_any n h1 h2 w hR hoff hst ht hf hL).mono fun e w' ⟨h, b⟩ => by
    rcases h with ⟨_, a, c, he, hs⟩ | ⟨h, _⟩
    · exact ⟨a, c, he, hs, b⟩
    · exact absurd hk h
theorem productOfImages_big (n : Nat) (h1 : 1 ≤ n) (h2 : n ≤ 16) (w : World) {base g cap t s m cap2 off : Nat} (hR : RowE w base 136 12 g cap t (fun k => arrL (imA n L f k))) (hoff : 0 < m → off = s * 12) (hst : s + m ≤ t) (ht : t ≤ 12) (hf : Within f L 1000000000) (hL : L ≤ 12) (hk : ¬ prOk n L f s m) :
    Calls Try.prog 128 #[.int .i64 (n : Int), .slice (some ⟨g, off, none⟩) m cap2] w fun e w' => e = .returned (failV 3) ∧ Below w.heap.size w w' :=
  (productOfImages_any n h1 h2 w hR hoff hst ht hf hL).mono fun e w' ⟨h, b⟩ => by
    rcases h with ⟨h, _⟩ | ⟨_, he⟩
    · exact absurd h hk
    · exact ⟨he, b⟩
set_option maxRecDepth 100000 in
set_option maxHeartbeats 4000000 in
theorem NormOf_impl_ok (n : Nat) (w : World) (hs : Sl o w lo hi v L f) (h : CyP n L f) (hk : prOk n L f 0 (phiN n)) :
    Calls Try.prog 55 #[.agg #[.int .i64 (n : Int), v]] w fun e w' => e = .returned (.tuple #[.int .i64 (prI n L f 0 (phiN n) 0), .int .i64 0]) ∧ Below w.heap.size w w' := by
  have HK := Lib.hid hk
  have HF := Lib.hid h.2.2.2
  clear hk
  obtain ⟨av, cap, rfl⟩ := hs.shape
  have hn1 : 1 ≤ n := by have := h.1; omega
  have hn2 : n ≤ 16 := by have := h.2.1; omega
  have hp := phi_le12 n hn2 hn1
  have hL : L ≤ 12 := by have e : L = phiN n := h.2.2.1; omega
  have hpos : 0 < L := by have e : L = phiN n := h.2.2.1; have := phiN_pos n (by omega) hn1; omega
  have hhs := hs.size
  have st0 := ((((St.start w).addSl ⟨o, lo, hi, .slice av L cap, L, f⟩ hs).alloc (.cells #[.int .i64 (n : Int), .slice av L cap] 24)).addBox w.heap.size [.int .i64 (n : Int), .slice av L cap] (Box.made _ _ _ _ (fun j v h => by simpa using h)))
  have q0 := st0.sl 0 ⟨o, lo, hi, .slice av L cap, L, f⟩ rfl
  dsimp only at q0
  have HC := Lib.hid h
  clear h hs
  go_enter Try.func55, Try.ntmps55
  go_wp2_with fail
  refine (IsCyclo_yes _ _ q0 HC.out).mono ?_
  rintro e w1 ⟨rfl, b1⟩
  clear q0
  have st1 := st0.keep b1
  have hz_w1 := b1.size
  try simp only [World.size_alloc] at hz_w1
  clear st0 b1
  obtain ⟨c0, c1⟩ := (st1.box 0 (w.heap.size, [.int .i64 (n : Int), .slice av L cap]) rfl).cell2
  have hp0 := phiN_pos n (by omega) hn1
  have q0 := st1.sl 0 ⟨o, lo, hi, .slice av L cap, L, f⟩ rfl
  dsimp only at q0
  have hl1 : w.heap.size < w1.heap.size := by omega
  go_wp2_with fail
  go_region_law (first
      | (go_simp; go_at_call 132; refine (imagesOf_any n hn1 hn2 _ q0.drew (by omega)).mono ?_; rintro e w6 ⟨g6, c6, rfl, r6, b6⟩
         have hz6 := b6.size
         have st6 := st1.drew.keep b6
         obtain ⟨x6, x6'⟩ := (st6.box 0 (w.heap.size, [.int .i64 (n : Int), .slice av L cap]) rfl).cell2
         have hl6 : w.heap.size < w6.heap.size := by simp only [World.size_drew, World.size_alloc] at hz6; omega)
      | (go_simp; go_at_call 132; refine (imagesOf_any n hn1 hn2 _ (q0.alloc (.cells #[.int .i64 0, .slice none 0 0] 24)).drew (by omega)).mono ?_; rintro e w6 ⟨g6, c6, rfl, r6, b6⟩
         have hz6 := b6.size
         have st6 := (st1.boxNew (.int .i64 0) (.slice none 0 0) 24).drew.keep b6
         have bx6 := st6.box 0 _ rfl
         obtain ⟨x6, x6'⟩ := (st6.box 1 (w.heap.size, [.int .i64 (n : Int), .slice av L cap]) rfl).cell2
         have hl6 : w.heap.size < w6.heap.size := by simp only [World.size_drew, World.size_alloc] at hz6; omega)
      | (go_simp; go_at_call 128; have _g := bx6; refine (productOfImages_ok n hn1 hn2 _ (s := 0) (m := phiN n) (off := 0) (by exact r6) (fun _ => rfl) (by omega) hp HF.out hL HK.out).mono ?_; rintro e w7 ⟨a7, k7, rfl, s7, b7⟩
         have hz7 := b7.size
         have st7 := st6.keep b7
         have bx7 := bx6.keep b7
         obtain ⟨q0', q1'⟩ := bx7.cell2
         have qz' := bx7.2.2)
      | (go_simp; go_at_call 128; have _g := b6; refine (productOfImages_ok n hn1 hn2 _ (s := 0) (m := phiN n) (off := 0) (by exact r6) (fun _ => rfl) (by omega) hp HF.out hL HK.out).mono ?_; rintro e w7 ⟨a7, k7, rfl, s7, b7⟩
         have hz7 := b7.size
         have st7 := st6.keep b7)
      | (go_simp; go_at_call 128; have _g := b6; refine (productOfImages_ok n hn1 hn2 _ (s := 0) (m := phiN n) (off := 0) (by exact r6.alloc (.cells #[.int .i64 0, .slice none 0 0] 24)) (fun _ => rfl) (by omega) hp HF.out hL HK.out).mono ?_; rintro e w7 ⟨a7, k7, rfl, s7, b7⟩
         have hz7 := b7.size
         have st7 := (st6.boxNew (.int .i64 0) (.slice none 0 0) 24).keep b7
         have bx7 := st7.box 0 _ rfl
         obtain ⟨q0', q1'⟩ := bx7.cell2
         have qz' := bx7.2.2))
  all_goals first
    | (have _g : Box w7 w6.heap.size [.int .i64 0, .slice none 0 0] := bx7
       have W8 := bx7.set2 (u0 := .int .i64 (n : Int)) (u1 := .slice a7 (phiN n) k7)
       have c8 := W8.cell2.2
       have BB := (st7.tailB.set2 (b := w6.heap.size) (i := 0) (j := 1) (u := .int .i64 (n : Int)) (v := .slice a7 (phiN n) k7) (by omega) (by intro b hb; simp only [List.mem_cons, List.not_mem_nil, or_false] at hb; rcases hb with rfl <;> dsimp only <;> omega) (by intro s hs'; simp only [List.mem_cons, List.not_mem_nil, or_false] at hs'; rcases hs' with rfl <;> dsimp only <;> omega)).1
       have q8 := (s7.setOther (p := ⟨w6.heap.size, 0, none⟩) (.inl (by show w6.heap.size < (w6.alloc _).heap.size; rw [World.size_alloc]; omega)) (.int .i64 (n : Int))).setOther (p := ⟨w6.heap.size, 1, none⟩) (.inl (by show w6.heap.size < (w6.alloc _).heap.size; rw [World.size_alloc]; omega)) (.slice a7 (phiN n) k7)
       obtain ⟨b9, off9, k9, hv9, _, _, _, _, hc9, _⟩ := q8.at hp0
       cases hv9
       have x9 := hc9 0 hp0
       try rw [Nat.add_zero] at x9
       clear hc9 q8
       clear st7 b7 st6 b6 r6 st1 q0
       go_wp2
       go_ret2
       exact ⟨rfl, BB⟩)
    | (have _g : Box w7 w1.heap.size [.int .i64 0, .slice none 0 0] := bx7
       have W8 := bx7.set2 (u0 := .int .i64 (n : Int)) (u1 := .slice a7 (phiN n) k7)
       have c8 := W8.cell2.2
       have BB := (st7.tailB.set2 (b := w1.heap.size) (i := 0) (j := 1) (u := .int .i64 (n : Int)) (v := .slice a7 (phiN n) k7) (by omega) (by intro b hb; simp only [List.mem_cons, List.not_mem_nil, or_false] at hb; rcases hb with rfl <;> dsimp only <;> omega) (by intro s hs'; simp only [List.mem_cons, List.not_mem_nil, or_false] at hs'; rcases hs' with rfl <;> dsimp only <;> omega)).1
       have q8 := (s7.setOther (p := ⟨w1.heap.size, 0, none⟩) (.inl (by show w1.heap.size < w6.heap.size; simp only [World.size_drew, World.size_alloc] at hz6; omega)) (.int .i64 (n : Int))).setOther (p := ⟨w1.heap.size, 1, none⟩) (.inl (by show w1.heap.size < w6.heap.size; simp only [World.size_drew, World.size_alloc] at hz6; omega)) (.slice a7 (phiN n) k7)
       obtain ⟨b9, off9, k9, hv9, _, _, _, _, hc9, _⟩ := q8.at hp0
       cases hv9
       have x9 := hc9 0 hp0
       try rw [Nat.add_zero] at x9
       clear hc9 q8
       clear st7 b7 st6 b6 r6 st1 q0
       go_wp2
       go_ret2
       exact ⟨rfl, BB⟩)
    | (have st8 := st7.boxNew (.int .i64 (n : Int)) (.slice a7 (phiN n) k7) 24
       have c8 := ((st8.box 0 (w7.heap.size, [.int .i64 (n : Int), .slice a7 (phiN n) k7]) rfl).cell2).2
       have BB := st8.1
       have q8 := s7.alloc (.cells #[.int .i64 (n : Int), .slice a7 (phiN n) k7] 24)
       obtain ⟨b9, off9, k9, hv9, _, _, _, _, hc9, _⟩ := q8.at hp0
       cases hv9
       have x9 := hc9 0 hp0
       try rw [Nat.add_zero] at x9
       clear hc9 q8
       clear st8 st7 b7 st6 b6 r6 st1 q0
       go_wp2
       go_ret2
       exact ⟨rfl, BB⟩)

set_option maxRecDepth 100000 in
set_option maxHeartbeats 4000000 in
theorem NormOf_impl_big (n : Nat) (w : World) (hs : Sl o w lo hi v L f) (h : CyP n L f) (hk : ¬ prOk n L f 0 (phiN n)) :
    Calls Try.prog 55 #[.agg #[.int .i64 (n : Int), v]] w fun e w' => e = .returned (.tuple #[.int .i64 0, .int .i64 3]) ∧ Below w.heap.size w w' := by
  have HK := Lib.hid hk
  have HF := Lib.hid h.2.2.2
  clear hk
  obtain ⟨av, cap, rfl⟩ := hs.shape
  have hn1 : 1 ≤ n := by have := h.1; omega
  have hn2 : n ≤ 16 := by have := h.2.1; omega
  have hp := phi_le12 n hn2 hn1
  have hL : L ≤ 12 := by have e : L = phiN n := h.2.2.1; omega
  have hpos : 0 < L := by have e : L = phiN n := h.2.2.1; have := phiN_pos n (by omega) hn1; omega
  have hhs := hs.size
  have st0 := ((((St.start w).addSl ⟨o, lo, hi, .slice av L cap, L, f⟩ hs).alloc (.cells #[.int .i64 (n : Int), .slice av L cap] 24)).addBox w.heap.size [.int .i64 (n : Int), .slice av L cap] (Box.made _ _ _ _ (fun j v h => by simpa using h)))
  have q0 := st0.sl 0 ⟨o, lo, hi, .slice av L cap, L, f⟩ rfl
  dsimp only at q0
  have HC := Lib.hid h
  clear h hs
  go_enter Try.func55, Try.ntmps55
  go_wp2_with fail
  refine (IsCyclo_yes _ _ q0 HC.out).mono ?_
  rintro e w1 ⟨rfl, b1⟩
  clear q0
  have st1 := st0.keep b1
  have hz_w1 := b1.size
  try simp only [World.size_alloc] at hz_w1
  clear st0 b1
  obtain ⟨c0, c1⟩ := (st1.box 0 (w.heap.size, [.int .i64 (n : Int), .slice av L cap]) rfl).cell2
  have hp0 := phiN_pos n (by omega) hn1
  have q0 := st1.sl 0 ⟨o, lo, hi, .slice av L cap, L, f⟩ rfl
  dsimp only at q0
  have hl1 : w.heap.size < w1.heap.size := by omega
  go_wp2_with fail
  go_region_law (first
      | (go_simp; go_at_call 132; refine (imagesOf_any n hn1 hn2 _ q0.drew (by omega)).mono ?_; rintro e w6 ⟨g6, c6, rfl, r6, b6⟩
         have hz6 := b6.size
         have st6 := st1.drew.keep b6
         obtain ⟨x6, x6'⟩ := (st6.box 0 (w.heap.size, [.int .i64 (n : Int), .slice av L cap]) rfl).cell2
         have hl6 : w.heap.size < w6.heap.size := by simp only [World.size_drew, World.size_alloc] at hz6; omega)
      | (go_simp; go_at_call 132; refine (imagesOf_any n hn1 hn2 _ (q0.alloc (.cells #[.int .i64 0, .slice none 0 0] 24)).drew (by omega)).mono ?_; rintro e w6 ⟨g6, c6, rfl, r6, b6⟩
         have hz6 := b6.size
         have st6 := (st1.boxNew (.int .i64 0) (.slice none 0 0) 24).drew.keep b6
         have bx6 := st6.box 0 _ rfl
         obtain ⟨x6, x6'⟩ := (st6.box 1 (w.heap.size, [.int .i64 (n : Int), .slice av L cap]) rfl).cell2
         have hl6 : w.heap.size < w6.heap.size := by simp only [World.size_drew, World.size_alloc] at hz6; omega)
      | (go_simp; go_at_call 128; have _g := bx6; refine (productOfImages_big n hn1 hn2 _ (s := 0) (m := phiN n) (off := 0) (by exact r6) (fun _ => rfl) (by omega) hp HF.out hL HK.out).mono ?_; rintro e w7 ⟨rfl, b7⟩
         unfold failV
         have hz7 := b7.size
         have st7 := st6.keep b7
         have bx7 := bx6.keep b7
         obtain ⟨q0', q1'⟩ := bx7.cell2
         have qz' := bx7.2.2)
      | (go_simp; go_at_call 128; have _g := b6; refine (productOfImages_big n hn1 hn2 _ (s := 0) (m := phiN n) (off := 0) (by exact r6) (fun _ => rfl) (by omega) hp HF.out hL HK.out).mono ?_; rintro e w7 ⟨rfl, b7⟩
         unfold failV
         have hz7 := b7.size
         have st7 := st6.keep b7)
      | (go_simp; go_at_call 128; have _g := b6; refine (productOfImages_big n hn1 hn2 _ (s := 0) (m := phiN n) (off := 0) (by exact r6.alloc (.cells #[.int .i64 0, .slice none 0 0] 24)) (fun _ => rfl) (by omega) hp HF.out hL HK.out).mono ?_; rintro e w7 ⟨rfl, b7⟩
         unfold failV
         have hz7 := b7.size
         have st7 := (st6.boxNew (.int .i64 0) (.slice none 0 0) 24).keep b7
         have bx7 := st7.box 0 _ rfl
         obtain ⟨q0', q1'⟩ := bx7.cell2
         have qz' := bx7.2.2))
  all_goals first
    | (have _g : Box w7 w6.heap.size [.int .i64 0, .slice none 0 0] := bx7
       have W8 := bx7.set2 (u0 := .int .i64 0) (u1 := .slice none 0 0)
       have c8 := W8.cell2.2
       have BB := (st7.tailB.set2 (b := w6.heap.size) (i := 0) (j := 1) (u := .int .i64 0) (v := .slice none 0 0) (by omega) (by intro b hb; simp only [List.mem_cons, List.not_mem_nil, or_false] at hb; rcases hb with rfl <;> dsimp only <;> omega) (by intro s hs'; simp only [List.mem_cons, List.not_mem_nil, or_false] at hs'; rcases hs' with rfl <;> dsimp only <;> omega)).1
       clear st7 b7 st6 b6 r6 st1 q0
       go_wp2
       go_ret2
       exact ⟨rfl, BB⟩)
    | (have _g : Box w7 w1.heap.size [.int .i64 0, .slice none 0 0] := bx7
       have W8 := bx7.set2 (u0 := .int .i64 0) (u1 := .slice none 0 0)
       have c8 := W8.cell2.2
       have BB := (st7.tailB.set2 (b := w1.heap.size) (i := 0) (j := 1) (u := .int .i64 0) (v := .slice none 0 0) (by omega) (by intro b hb; simp only [List.mem_cons, List.not_mem_nil, or_false] at hb; rcases hb with rfl <;> dsimp only <;> omega) (by intro s hs'; simp only [List.mem_cons, List.not_mem_nil, or_false] at hs'; rcases hs' with rfl <;> dsimp only <;> omega)).1
       clear st7 b7 st6 b6 r6 st1 q0
       go_wp2
       go_ret2
       exact ⟨rfl, BB⟩)
    | (have st8 := st7.boxNew (.int .i64 0) (.slice none 0 0) 24
       have c8 := ((st8.box 0 (w7.heap.size, [.int .i64 0, .slice none 0 0]) rfl).cell2).2
       have BB := st8.1
       clear st8 st7 b7 st6 b6 r6 st1 q0
       go_wp2
       go_ret2
       exact ⟨rfl, BB⟩)
end
theorem unit_dec (y : Int) : decide (y = 1 ∨ y = -1) = (if y = 1 then true else (y == -1)) := by
  by_cases h : y = 1
  · rw [if_pos h]; exact decide_eq_true (.inl h)
  · rw [if_neg h]
    by_cases h2 : y = -1
    · rw [decide_eq_true (.inr h2)]; exact (beq_iff_eq.2 h2).symm
    · rw [decide_eq_false (fun h3 => h3.elim h h2)]; exact (beq_eq_false_iff_ne.2 h2).symm
section
variable {o : Bool} {lo hi L : Nat} {v : Value} {f : Nat → Int}
set_option maxHeartbeats 1000000 in
theorem IsUnit_impl_ok (n : Nat) (w : World) (hs : Sl o w lo hi v L f) (h : CyP n L f) (hk : prOk n L f 0 (phiN n)) :
    Calls Try.prog 68 #[.agg #[.int .i64 (n : Int), v]] w fun e w' => e = .returned (.tuple #[.bool (decide (prI n L f 0 (phiN n) 0 = 1 ∨ prI n L f 0 (phiN n) 0 = -1)), .int .i64 0]) ∧ Below w.heap.size w w' := by
  obtain ⟨av, cap, rfl⟩ := hs.shape
  have st0 := ((((St.start w).addSl ⟨o, lo, hi, .slice av L cap, L, f⟩ hs).alloc (.cells #[.int .i64 (n : Int), .slice av L cap] 24)).addBox w.heap.size [.int .i64 (n : Int), .slice av L cap] (Box.made _ _ _ _ (fun j v h => by simpa using h)))
  have q0 := st0.sl 0 ⟨o, lo, hi, .slice av L cap, L, f⟩ rfl
  dsimp only at q0
  have HC := Lib.hid h
  have HK := Lib.hid hk
  clear h hs hk
  go_enter Try.func68, Try.ntmps68
  go_wp2_with fail
  refine (NormOf_impl_ok n _ q0 HC.out HK.out).mono ?_
  rintro e w1 ⟨rfl, b1⟩
  have BB := (st0.keep b1).1
  clear st0 b1 q0
  have HU := Lib.hid (unit_dec (prI n L f 0 (phiN n) 0))
  by_cases hy : prI n L f 0 (phiN n) 0 = 1
  · have hb : (prI n L f 0 (phiN n) 0 == 1) = true := beq_iff_eq.2 hy
    have HY := Lib.hid hy
    clear hy
    go_wp2
    go_ret2
    exact ⟨by rw [HU.out, if_pos HY.out]; try rfl, BB⟩
  · have hb : (prI n L f 0 (phiN n) 0 == 1) = false := beq_eq_false_iff_ne.2 hy
    have HY := Lib.hid hy
    clear hy
    by_cases hy2 : prI n L f 0 (phiN n) 0 = -1
    · have hb2 : (prI n L f 0 (phiN n) 0 == -1) = true := beq_iff_eq.2 hy2
      clear hy2
      have HB := Lib.hid hb2
      go_wp2
      go_ret2
      exact ⟨by rw [HU.out, if_neg HY.out, HB.out]; try rfl, BB⟩
    · have hb2 : (prI n L f 0 (phiN n) 0 == -1) = false := beq_eq_false_iff_ne.2 hy2
      clear hy2
      have HB := Lib.hid hb2
      go_wp2
      go_ret2
      exact ⟨by rw [HU.out, if_neg HY.out, HB.out]; try rfl, BB⟩

set_option maxHeartbeats 1000000 in
theorem IsUnit_impl_big (n : Nat) (w : World) (hs : Sl o w lo hi v L f) (h : CyP n L f) (hk : ¬ prOk n L f 0 (phiN n)) :
    Calls Try.prog 68 #[.agg #[.int .i64 (n : Int), v]] w fun e w' => e = .returned (.tuple #[.bool false, .int .i64 3]) ∧ Below w.heap.size w w' := by
  obtain ⟨av, cap, rfl⟩ := hs.shape
  have st0 := ((((St.start w).addSl ⟨o, lo, hi, .slice av L cap, L, f⟩ hs).alloc (.cells #[.int .i64 (n : Int), .slice av L cap] 24)).addBox w.heap.size [.int .i64 (n : Int), .slice av L cap] (Box.made _ _ _ _ (fun j v h => by simpa using h)))
  have q0 := st0.sl 0 ⟨o, lo, hi, .slice av L cap, L, f⟩ rfl
  dsimp only at q0
  have HC := Lib.hid h
  have HK := Lib.hid hk
  clear h hs hk
  go_enter Try.func68, Try.ntmps68
  go_wp2_with fail
  refine (NormOf_impl_big n _ q0 HC.out HK.out).mono ?_
  rintro e w1 ⟨rfl, b1⟩
  have BB := (st0.keep b1).1
  clear st0 b1 q0
  go_wp2
  go_ret2
  exact ⟨rfl, BB⟩
end
end

section
open Go.RowKit Go.ChangeShapes Go.Sort
set_option linter.unusedVariables false
theorem cu_isunit (n a : Nat) (h2 : 2 ≤ n) (h16 : n ≤ 16) (ha : a < n) (hg : Nat.gcd a n = 1) : ∃ (y : Bool) (c : Int), (c = 0 ∧ y = true ∨ c = 3 ∧ y = false) ∧ ∀ (w : World) (lo hi : Nat) (v : Value) (_ : Sl true w lo hi v (phiN n) (cuF n a)), Calls Try.prog 68 #[.agg #[.int .i64 (n : Int), v]] w fun e w' => e = .returned (.tuple #[.bool y, .int .i64 c]) ∧ Below w.heap.size w w' := by
  have hC : CyP (n : Int) (phiN n) (cuF n a) := ⟨by omega, by omega, rfl, cu_within (n := n) (by omega) (by omega) (by omega)⟩
  by_cases hk : prOk n (phiN n) (cuF n a) 0 (phiN n)
  · refine ⟨true, 0, .inl ⟨rfl, rfl⟩, fun w _ _ _ hs => ?_⟩
    have h := IsUnit_impl_ok n w hs hC hk
    rw [cu_norm (by omega) h2 ha hg] at h
    exact h
  · exact ⟨false, 3, .inr ⟨rfl, rfl⟩, fun w _ _ _ hs => IsUnit_impl_big n w hs hC hk⟩
end

section
open Go.RowKit Go.ChangeShapes
set_option linter.unusedVariables false
set_option linter.unusedSimpArgs false
/-- Bytes that are there to be read, below the block B. -/
def Bytes (w : World) (B : Nat) (p : Option Addr) (n : Nat) : Prop := n ≤ 4096 ∧ ∀ j, j < n → ∃ g off c, p = some ⟨g, off, none⟩ ∧ g < B ∧ g < w.heap.size ∧ w.cell? ⟨g, off + j, none⟩ = some (.int .u8 c) ∧ 0 ≤ c ∧ c ≤ 255
/-- A source of drawn numbers in the block b. -/
def Src (w : World) (b : Nat) (p : Option Addr) (n q : Nat) : Prop := ∃ (at_ : Nat) (h : Int), at_ ≤ n ∧ 0 ≤ h ∧ h ≤ 18446744073709551615 ∧ Box w b [.slice p n q, .int .i64 at_, .int .u64 h]
theorem Box.set {w : World} {b i : Nat} {vs : List Value} {u : Value} (h : Box w b vs) (hi : i < vs.length) : Box (w.setCell ⟨b, i, none⟩ u) b (vs.set i u) := by
  obtain ⟨h1, h2, h3⟩ := h
  refine ⟨by simpa using h1, fun j v hj => ?_, fun k => by simpa using h3 k⟩
  by_cases e : j = i
  · subst e
    rw [List.getElem?_set_self (by simpa using hi)] at hj
    obtain rfl : u = v := Option.some.inj hj
    exact World.cell?_setCell_same _ _ _ (h2 j _ (List.getElem?_eq_getElem hi))
  · rw [List.getElem?_set_ne (fun h => e h.symm)] at hj
    rw [setCell_ne _ _ _ _ _ e]
    exact h2 j v hj
theorem Box.drewN {w : World} {b : Nat} {vs : List Value} (h : Box w b vs) (m : Nat) : Box (w.drewN m) b vs := h.keep (below_drewN (Below.refl _ _) m)
theorem wrap_u64 (x : Int) : 0 ≤ IntKind.u64.wrap x ∧ IntKind.u64.wrap x ≤ 18446744073709551615 := by
  have h : IntKind.u64.wrap x = x % 18446744073709551616 := by rfl
  omega
theorem and_small (x : Int) (h : 0 ≤ x) (hx' : x < 18446744073709551616) : 0 ≤ wrap64 (bits .and .u64 x 1073741823) ∧ wrap64 (bits .and .u64 x 1073741823) ≤ 1073741823 := by
  have h1 : 0 ≤ bits .and .u64 x 1073741823 ∧ bits .and .u64 x 1073741823 ≤ 1073741823 := by
    by_cases hx : x < 18446744073709551616
    · rw [u64_and x 1073741823 h hx (by omega) (by omega)]
      have := @Nat.and_le_right x.toNat (1073741823 : Int).toNat
      have e : (1073741823 : Int).toNat = 1073741823 := rfl
      rw [e] at this ⊢
      omega
    · exact absurd hx' hx
  rw [wrap_inR (by unfold inR; omega)]
  exact h1
set_option maxRecDepth 100000 in
set_option maxHeartbeats 1000000 in
theorem l01Next_any (b B : Nat) (p : Option Addr) (n q : Nat) (m : Int) (w : World) (hs : Src w b p n q) (hb : Bytes w B p n) (hB : B ≤ b) (hm : 1 ≤ m) (hm2 : m ≤ 1000000000000) :
    Calls Try.prog 116 #[.pointer (some ⟨b, 0, none⟩), .int .i64 m] w fun e w' => ∃ r : Int, e = .returned (.int .i64 r) ∧ 0 ≤ r ∧ r < m ∧ Src w' b p n q ∧ Frame b (b + 1) w w' := by
  obtain ⟨at_, h, hat, hh1, hh2, hbx⟩ := hs
  have c0 := hbx.2.1 0 _ rfl
  have c1 := hbx.2.1 1 _ rfl
  have c2 := hbx.2.1 2 _ rfl
  have hz := hbx.2.2
  have hbz := hbx.1
  have hn := hb.1
  have HB := Lib.hid hb.2
  have HBX := Lib.hid hbx
  clear hb hbx
  go_enter Try.func116, Try.ntmps116
  go_wp2
  have hH := wrap_u64 (IntKind.u64.wrap (h * 6364136223846793005) + 1442695040888963407)
  have hX := and_small (IntKind.u64.wrap (IntKind.u64.wrap (h * 6364136223846793005) + 1442695040888963407) / 2147483648) (by omega) (by omega)
  generalize wrap64 (bits .and .u64 (IntKind.u64.wrap (IntKind.u64.wrap (h * 6364136223846793005) + 1442695040888963407) / 2147483648) 1073741823) = X at *
  generalize IntKind.u64.wrap (IntKind.u64.wrap (h * 6364136223846793005) + 1442695040888963407) = H at *
  obtain ⟨hX1, hX2⟩ := hX
  obtain ⟨hH1, hH2⟩ := hH
  by_cases hlt : at_ < n
  · obtain ⟨g, off, c, rfl, hg, hgz, hc, hc1, hc2⟩ := HB.out at_ hlt
    have hgb : ¬ (b = g) := by omega
    have hlt2 : (at_ : Int) < n := by omega
    go_quiet (fail)
    go_wp2
    go_quiet (fail)
    go_wp2
    refine bodyPost_ret (v := .int .i64 ((X + c) % m)) (by simp [results, Try.results116, go_sem]) rfl ?_
    refine ⟨_, rfl, Int.emod_nonneg _ (by omega), Int.emod_lt_of_pos _ (by omega), ⟨at_ + 1, H, by omega, hH1, hH2, ?_⟩, ?_⟩
    · have hall : ∀ k, Box (((w.setCell ⟨b, 2, none⟩ (.int .u64 H)).drewN k).setCell ⟨b, 1, none⟩ (.int .i64 ((at_ : Int) + 1))) b [.slice (some ⟨g, off, none⟩) n q, .int .i64 ((at_ + 1 : Nat) : Int), .int .u64 H] := fun k => by
        have h2 := ((HBX.out.set (i := 2) (u := .int .u64 H) (by simp)).drewN k).set (i := 1) (u := .int .i64 ((at_ : Int) + 1)) (by simp)
        simpa using h2
      exact hall _
    · exact (((Frame.refl b (b + 1) w).setCell (Nat.le_refl _) (Nat.lt_succ_self _) _).drewN _).setCell (Nat.le_refl _) (Nat.lt_succ_self _) _
  · have hlt2 : ¬ ((at_ : Int) < n) := by omega
    go_quiet (fail)
    go_wp2
    refine bodyPost_ret (v := .int .i64 (X % m)) (by simp [results, Try.results116, go_sem]) rfl ?_
    refine ⟨_, rfl, Int.emod_nonneg _ (by omega), Int.emod_lt_of_pos _ (by omega), ⟨at_, H, by omega, hH1, hH2, ?_⟩, ?_⟩
    · have h1 := (HBX.out.set (i := 2) (u := .int .u64 H) (by simp)).drewN nq
      simpa using h1
    · exact ((Frame.refl b (b + 1) w).setCell (Nat.le_refl _) (Nat.lt_succ_self _) _).drewN _

theorem Bytes.frame {w w' : World} {B b : Nat} {p : Option Addr} {n : Nat} (h : Bytes w B p n) (hf : Frame b (b + 1) w w') (hB : B ≤ b) : Bytes w' B p n :=
  ⟨h.1, fun j hj => by
    obtain ⟨g, off, c, e, h1, h2, h3, h4⟩ := h.2 j hj
    exact ⟨g, off, c, e, h1, Nat.lt_of_lt_of_le h2 hf.size, (hf.cell (p := ⟨g, off + j, none⟩) h2 (.inl (by show g < b; omega))).trans h3, h4⟩⟩
theorem Bytes.below {w w' : World} {B : Nat} {p : Option Addr} {n : Nat} (h : Bytes w B p n) (hb : Below w.heap.size w w') : Bytes w' B p n :=
  ⟨h.1, fun j hj => by
    obtain ⟨g, off, c, e, h1, h2, h3, h4⟩ := h.2 j hj
    exact ⟨g, off, c, e, h1, Nat.lt_of_lt_of_le h2 hb.size, cell_later hb h3, h4⟩⟩
section
variable {o : Bool} {lo hi k : Nat} {v : Value} {f : Nat → Int}
set_option maxRecDepth 100000 in
theorem l01Pick_any (b B : Nat) (p : Option Addr) (n q : Nat) (w : World) (hs : Src w b p n q) (hb : Bytes w B p n) (hB : B ≤ b) (hl : Sl o w lo hi v k f) (hd : hi ≤ b ∨ b + 1 ≤ lo) (hk : 1 ≤ k) (hk2 : k ≤ 1000) :
    Calls Try.prog 105 #[.pointer (some ⟨b, 0, none⟩), v] w fun e w' => ∃ i, i < k ∧ e = .returned (.int .i64 (f i)) ∧ Src w' b p n q ∧ Frame b (b + 1) w w' := by
  obtain ⟨a, cap, rfl⟩ := hl.shape
  have HL := Lib.hid hl
  clear hl
  go_enter Try.func105, Try.ntmps105
  go_wp2_with fail
  refine (l01Next_any b B p n q k w hs hb hB (by omega) (by omega)).mono ?_
  rintro e w1 ⟨r, rfl, hr1, hr2, hs1, hf1⟩
  obtain ⟨i, rfl⟩ := Int.eq_ofNat_of_zero_le hr1
  have hik : i < k := by omega
  have hl1 := HL.out.keepF hf1 hd
  obtain ⟨g, off, c1, hv, _, _, _, _, hc, _⟩ := hl1.at (by omega)
  obtain ⟨rfl, rfl⟩ : a = some ⟨g, off, none⟩ ∧ cap = c1 := by cases hv; exact ⟨rfl, rfl⟩
  have hck := hc i hik
  clear hv hc
  go_wp2
  go_ret
  exact ⟨i, hik, rfl, hs1, hf1⟩
end
set_option maxRecDepth 100000 in
set_option maxHeartbeats 1000000 in
theorem l01From_any (B : Nat) (p : Option Addr) (n q : Nat) (w : World) (hb : Bytes w B p n) (hB : B ≤ w.heap.size) :
    Calls Try.prog 95 #[.slice p n q] w fun e w' => e = .returned (.pointer (some ⟨w.heap.size, 0, none⟩)) ∧ Src w' w.heap.size p n q ∧ Bytes w' B p n ∧ Below w.heap.size w w' := by
  have hn := hb.1
  have HB := Lib.hid hb
  clear hb
  have H0 := wrap_u64 (13131 + n)
  go_enter Try.func95, Try.ntmps95
  go_wp2
  go_loopw [4] (fun s4 wr => ∃ k : Nat, k ≤ n ∧ s4 = .int .i64 k ∧ (∃ h : Int, 0 ≤ h ∧ h ≤ 18446744073709551615 ∧ Box wr w.heap.size [.slice p n q, .int .i64 0, .int .u64 h]) ∧ Bytes wr B p n ∧ Below w.heap.size w wr) (fun s4 _ => n - (intOf s4).toNat)
  case atStart => exact ⟨0, Nat.zero_le _, rfl, ⟨13131 + n, by omega, by omega, Box.made _ _ _ _ (fun j v h => by simpa using h)⟩, HB.out.below ((Below.refl _ _).alloc (Nat.le_refl _) _), (Below.refl _ _).alloc (Nat.le_refl _) _⟩
  case round =>
    obtain ⟨k, hk, rfl, ⟨h, hh1, hh2, hbx⟩, hby, hbl⟩ := hrel
    have c0 := hbx.2.1 0 _ rfl
    have c1 := hbx.2.1 1 _ rfl
    have c2 := hbx.2.1 2 _ rfl
    have hz := hbx.2.2
    have hbz := hbx.1
    have HBX := Lib.hid hbx
    have HBY := Lib.hid hby
    have HBL := Lib.hid hbl
    clear hbx hby hbl
    by_cases hlt : k < n
    · obtain ⟨g, off, c, rfl, hg, hgz, hc, hc1, hc2⟩ := HBY.out.2 k hlt
      have hgb : ¬ (w.heap.size = g) := by omega
      have hlt2 : (k : Int) < n := by omega
      have hlt3 : (k : Int) < 4096 := by omega
      go_wp2
      go_region
      go_wp2
      go_roundw
      case rel =>
        have hw := wrap_u64 (IntKind.u64.wrap (IntKind.u64.wrap (h * 1099511628211) + c) + 131)
        have hf : Frame w.heap.size (w.heap.size + 1) wr ((wr.setCell ⟨w.heap.size, 2, none⟩ (.int .u64 (IntKind.u64.wrap (IntKind.u64.wrap (IntKind.u64.wrap (h * 1099511628211) + c) + 131)))).drew) := ((Frame.refl w.heap.size (w.heap.size + 1) wr).setCell (Nat.le_refl _) (Nat.lt_succ_self _) _).drew
        refine ⟨k + 1, by omega, by go_num, ⟨_, hw.1, hw.2, ?_⟩, HBY.out.frame hf hB, HBL.out.trans (hf.below (Nat.le_refl _) HBL.out.size)⟩
        have h2 := HBX.out.set (i := 2) (u := .int .u64 (IntKind.u64.wrap (IntKind.u64.wrap (IntKind.u64.wrap (h * 1099511628211) + c) + 131))) (by simp)
        have h3 := h2.keep (Below.refl _ _).drew
        simpa using h3
      case measure => simp [intOf] <;> omega
    · obtain rfl : k = n := by omega
      go_wp2
      go_ret
      exact ⟨rfl, ⟨0, h, Nat.zero_le _, hh1, hh2, HBX.out⟩, HBY.out, HBL.out⟩
end

section
open Go.RowKit Go.ChangeShapes
set_option linter.unusedVariables false
set_option linter.unusedSimpArgs false

theorem Src.keep {w w' : World} {b : Nat} {p : Option Addr} {n q : Nat} (h : Src w b p n q) (hb : Below w.heap.size w w') : Src w' b p n q := by
  obtain ⟨a, x, h1, h2, h3, h4⟩ := h
  exact ⟨a, x, h1, h2, h3, h4.keep hb⟩
theorem Src.lt {w : World} {b : Nat} {p : Option Addr} {n q : Nat} (h : Src w b p n q) : b < w.heap.size := by
  obtain ⟨a, x, h1, h2, h3, h4⟩ := h
  exact h4.1
/-- A list just laid. -/
theorem Sl.list (w : World) (xs : List Int) (hx : ∀ x ∈ xs, inR x) (hl : xs.length ≤ maxLen) :
    Sl true (w.alloc (.cells (xs.map (Value.int .i64)).toArray 2)) w.heap.size (w.heap.size + 1) (.slice (some ⟨w.heap.size, 0, none⟩) xs.length xs.length) xs.length (fun j => xs.getD j 0) :=
  Sl.made w _ _ _ _ _ (Nat.le_refl _) hl (fun j hj => by
    rw [List.getD_eq_getElem?_getD, List.getElem?_eq_getElem hj]
    exact hx _ (List.getElem_mem hj)) (fun j hj => by simp [List.getD_eq_getElem?_getD, List.getElem?_eq_getElem hj])
section
variable {b B : Nat} {p : Option Addr} {n q : Nat}
set_option maxRecDepth 100000 in
theorem l01Near_any (m : Int) (w : World) (hs : Src w b p n q) (hb : Bytes w B p n) (hB : B ≤ b) (hm : 0 ≤ m) (hm2 : m ≤ 100000000000) :
    Calls Try.prog 106 #[.pointer (some ⟨b, 0, none⟩), .int .i64 m] w fun e w' => ∃ r, e = .returned (.int .i64 r) ∧ inR r ∧ Src w' b p n q ∧ Bytes w' B p n ∧ Frame b (b + 1) w w' := by
  go_enter Try.func106, Try.ntmps106
  go_wp2_with fail
  refine (l01Next_any b B p n q 14 w hs hb hB (by omega) (by omega)).mono ?_
  rintro e w1 ⟨r, rfl, hr1, hr2, hs1, hf1⟩
  have hb1 := hb.frame hf1 hB
  clear hs hb
  by_cases h0 : r = 0
  · subst h0
    have hl := Sl.list w1 [-1, m + 1, 1099511627776, -4611686018427387904] (by intro x hx; simp only [List.mem_cons, List.not_mem_nil, or_false] at hx; unfold inR; rcases hx with rfl | rfl | rfl | rfl <;> omega) (by simp [maxLen])
    have hlt := hs1.lt
    have hs2 := hs1.keep ((Below.refl w1.heap.size w1).alloc (Nat.le_refl _) (.cells ([-1, m + 1, 1099511627776, -4611686018427387904].map (Value.int .i64)).toArray 2))
    have hb2 := hb1.below ((Below.refl w1.heap.size w1).alloc (Nat.le_refl _) (.cells ([-1, m + 1, 1099511627776, -4611686018427387904].map (Value.int .i64)).toArray 2))
    simp only [List.map_cons, List.map_nil, List.length_cons, List.length_nil] at hl hs2 hb2
    go_wp2_with fail
    refine (l01Pick_any b B p n q _ hs2 hb2 hB hl (.inr (by omega)) (by omega) (by omega)).mono ?_
    rintro e w2 ⟨i, hi, rfl, hs3, hf3⟩
    have hr : inR ([-1, m + 1, 1099511627776, -4611686018427387904].getD i 0) := hl.bd i hi
    generalize [-1, m + 1, 1099511627776, -4611686018427387904].getD i 0 = x at *
    go_wp2
    go_ret
    exact ⟨_, rfl, hr, hs3, hb2.frame hf3 hB, hf1.trans (((Frame.refl b (b + 1) w1).alloc _).trans hf3)⟩
  · have h0' : (r == 0) = false := by simpa using h0
    go_wp2_with fail
    refine (l01Next_any b B p n q (m + 1) w1 hs1 hb1 hB (by omega) (by omega)).mono ?_
    rintro e w2 ⟨r2, rfl, hr3, hr4, hs2, hf2⟩
    go_wp2
    go_ret
    exact ⟨r2, rfl, by unfold inR; omega, hs2, hb1.frame hf2 hB, hf1.trans hf2⟩
set_option maxRecDepth 100000 in
theorem l01DrawOrder_any (w : World) (hs : Src w b p n q) (hb : Bytes w B p n) (hB : B ≤ b) :
    Calls Try.prog 140 #[.pointer (some ⟨b, 0, none⟩)] w fun e w' => ∃ k : Nat, e = .returned (.int .i64 (k : Int)) ∧ 1 ≤ k ∧ k ≤ 16 ∧ Src w' b p n q ∧ Bytes w' B p n ∧ Frame b (b + 1) w w' := by
  go_enter Try.func140, Try.ntmps140
  go_wp2_with fail
  refine (l01Next_any b B p n q 16 w hs hb hB (by omega) (by omega)).mono ?_
  rintro e w1 ⟨r, rfl, hr1, hr2, hs1, hf1⟩
  have hb1 := hb.frame hf1 hB
  clear hs hb
  have hl := Sl.list w1 [1, 2, 3, 3, 4, 4, 5, 5, 6, 7, 8, 9, 10, 12, 1 + r] (by intro x hx; simp only [List.mem_cons, List.not_mem_nil, or_false] at hx; unfold inR; rcases hx with rfl | rfl | rfl | rfl | rfl | rfl | rfl | rfl | rfl | rfl | rfl | rfl | rfl | rfl | rfl <;> omega) (by simp [maxLen])
  have hall : ∀ x ∈ [1, 2, 3, 3, 4, 4, 5, 5, 6, 7, 8, 9, 10, 12, 1 + r], 1 ≤ x ∧ x ≤ 16 := by intro x hx; simp only [List.mem_cons, List.not_mem_nil, or_false] at hx; rcases hx with rfl | rfl | rfl | rfl | rfl | rfl | rfl | rfl | rfl | rfl | rfl | rfl | rfl | rfl | rfl <;> omega
  have hlt := hs1.lt
  have hs2 := hs1.keep ((Below.refl w1.heap.size w1).alloc (Nat.le_refl _) (.cells ([1, 2, 3, 3, 4, 4, 5, 5, 6, 7, 8, 9, 10, 12, 1 + r].map (Value.int .i64)).toArray 2))
  have hb2 := hb1.below ((Below.refl w1.heap.size w1).alloc (Nat.le_refl _) (.cells ([1, 2, 3, 3, 4, 4, 5, 5, 6, 7, 8, 9, 10, 12, 1 + r].map (Value.int .i64)).toArray 2))
  simp only [List.map_cons, List.map_nil, List.length_cons, List.length_nil] at hl hs2 hb2
  have HALL := Lib.hid hall
  clear hall
  go_wp2_with fail
  refine (l01Pick_any b B p n q _ hs2 hb2 hB hl (.inr (by omega)) (by omega) (by omega)).mono ?_
  rintro e w2 ⟨i, hi, rfl, hs3, hf3⟩
  have hmem : 1 ≤ [1, 2, 3, 3, 4, 4, 5, 5, 6, 7, 8, 9, 10, 12, 1 + r].getD i 0 ∧ [1, 2, 3, 3, 4, 4, 5, 5, 6, 7, 8, 9, 10, 12, 1 + r].getD i 0 ≤ 16 := by
    rw [List.getD_eq_getElem?_getD, List.getElem?_eq_getElem (by simpa using hi)]
    exact HALL.out _ (List.getElem_mem _)
  generalize [1, 2, 3, 3, 4, 4, 5, 5, 6, 7, 8, 9, 10, 12, 1 + r].getD i 0 = x at *
  obtain ⟨k, rfl⟩ := Int.eq_ofNat_of_zero_le (show 0 ≤ x by omega)
  go_wp2
  go_ret
  exact ⟨k, rfl, by omega, by omega, hs3, hb2.frame hf3 hB, hf1.trans (((Frame.refl b (b + 1) w1).alloc _).trans hf3)⟩
set_option maxRecDepth 100000 in
theorem l01DrawPart_any (m : Int) (w : World) (hs : Src w b p n q) (hb : Bytes w B p n) (hB : B ≤ b) (hm : 0 ≤ m) (hm2 : m ≤ 1000000000) :
    Calls Try.prog 176 #[.pointer (some ⟨b, 0, none⟩), .int .i64 m] w fun e w' => ∃ r, e = .returned (.int .i64 r) ∧ -m ≤ r ∧ r ≤ m ∧ Src w' b p n q ∧ Bytes w' B p n ∧ Frame b (b + 1) w w' := by
  go_enter Try.func176, Try.ntmps176
  go_wp2_with fail
  refine (l01Next_any b B p n q (2 * m + 1) w hs hb hB (by omega) (by omega)).mono ?_
  rintro e w1 ⟨r, rfl, hr1, hr2, hs1, hf1⟩
  have hb1 := hb.frame hf1 hB
  go_wp2
  go_ret
  exact ⟨r - m, rfl, by omega, by omega, hs1, hb1, hf1⟩
end
end

section
open Go.RowKit Go.ChangeShapes Go.Sort
set_option linter.unusedVariables false
set_option linter.unusedSimpArgs false
theorem Src.keepF {w w' : World} {b lo hi : Nat} {p : Option Addr} {n q : Nat} (h : Src w b p n q) (hf : Frame lo hi w w') (hd : b < lo ∨ hi ≤ b) : Src w' b p n q := by
  obtain ⟨a, x, h1, h2, h3, h4⟩ := h
  exact ⟨a, x, h1, h2, h3, h4.keepF hf hd⟩
theorem Bytes.frameG {w w' : World} {B lo hi : Nat} {p : Option Addr} {n : Nat} (h : Bytes w B p n) (hf : Frame lo hi w w') (hB : B ≤ lo) : Bytes w' B p n :=
  ⟨h.1, fun j hj => by
    obtain ⟨g, off, c, e, h1, h2, h3, h4⟩ := h.2 j hj
    exact ⟨g, off, c, e, h1, Nat.lt_of_lt_of_le h2 hf.size, (hf.cell (p := ⟨g, off + j, none⟩) h2 (.inl (by show g < lo; omega))).trans h3, h4⟩⟩
section
variable {b B : Nat} {p : Option Addr} {n q : Nat}
set_option maxRecDepth 100000 in
set_option maxHeartbeats 2000000 in
theorem l01DrawOf_any (N : Nat) (m : Int) (w : World) (hs : Src w b p n q) (hb : Bytes w B p n) (hB : B ≤ b) (hN1 : 1 ≤ N) (hN2 : N ≤ 16) (hm : 0 ≤ m) (hm2 : m ≤ 1000000000) :
    Calls Try.prog 126 #[.pointer (some ⟨b, 0, none⟩), .int .i64 (N : Int), .int .i64 m] w fun e w' => ∃ a cap f, e = .returned (.agg #[.int .i64 (N : Int), .slice a (phiN N) cap]) ∧ Sl true w' w.heap.size w'.heap.size (.slice a (phiN N) cap) (phiN N) f ∧ Within f (phiN N) 1000000000 ∧ Src w' b p n q ∧ Bytes w' B p n ∧ Frame b (b + 1) w w' := by
  have hbz := hs.lt
  have hp := phi_le12 N hN2 hN1
  have hp1 := phiN_pos N (by omega) hN1
  have ba := (Below.refl w.heap.size w).alloc (Nat.le_refl _) (.cells #[.int .i64 0, .slice none 0 0] 24)
  have hs0 := hs.keep ba
  have hb0 := hb.below ba
  have bx0 := Box.made2 (w := w) (b := w.heap.size) (v0 := .int .i64 0) (v1 := .slice none 0 0) (t := 24) rfl
  have f0 := (Frame.refl b (b + 1) w).alloc (.cells #[.int .i64 0, .slice none 0 0] 24)
  clear hs hb ba
  go_enter Try.func126, Try.ntmps126
  go_wp2_with fail
  refine (l01Zero_any N (by omega) _).mono ?_
  rintro e w1 ⟨a1, k1, rfl, s1, b1⟩
  have hz1 := b1.size
  simp only [World.size_alloc] at hz1 s1
  have bb := (Below.refl w1.heap.size w1).alloc (Nat.le_refl _) (.cells #[.int .i64 (N : Int), .slice a1 (phiN N) k1] 24)
  have HS := Lib.hid ((hs0.keep b1).keep bb)
  have HB := Lib.hid ((hb0.below b1).below bb)
  have HX0 := Lib.hid ((bx0.keep b1).keep bb)
  have HX1 := Lib.hid (Box.made2 (w := w1) (b := w1.heap.size) (v0 := .int .i64 (N : Int)) (v1 := .slice a1 (phiN N) k1) (t := 24) rfl)
  have HL := Lib.hid (s1.alloc (.cells #[.int .i64 (N : Int), .slice a1 (phiN N) k1] 24))
  have HF := Lib.hid ((f0.trans (Frame.of_below (lo := b) (hi := b + 1) b1 (Nat.le_refl _))).trans (Frame.of_below (lo := b) (hi := b + 1) bb (Nat.le_refl _)))
  clear hs0 hb0 bx0 f0 b1 s1 bb
  go_wp2
  go_loopw [8] (fun s8 wr => ∃ (k : Nat) (f : Nat → Int), k ≤ phiN N ∧ s8 = .int .i64 k ∧ Sl true wr (w.heap.size + 1) w1.heap.size (.slice a1 (phiN N) k1) (phiN N) f ∧ Within f (phiN N) 1000000000 ∧ Box wr w.heap.size [.int .i64 0, .slice none 0 0] ∧ Box wr w1.heap.size [.int .i64 (N : Int), .slice a1 (phiN N) k1] ∧ Src wr b p n q ∧ Bytes wr B p n ∧ Frame b (b + 1) w wr) (fun s8 _ => phiN N - (intOf s8).toNat)
  case atStart => exact ⟨0, fun _ => 0, Nat.zero_le _, rfl, HL.out, fun _ _ => by dsimp only; omega, HX0.out, HX1.out, HS.out, HB.out, HF.out⟩
  case round =>
    clear HS HB HX0 HX1 HL HF
    obtain ⟨k, f, hk, rfl, hl, hw, hx0, hx1, hs, hb, hf⟩ := hrel
    obtain ⟨c0, c1⟩ := hx1.cell2
    have HL := Lib.hid hl
    have HW := Lib.hid hw
    have HX0 := Lib.hid hx0
    have HX1 := Lib.hid hx1
    have HS := Lib.hid hs
    have HB := Lib.hid hb
    have HF := Lib.hid hf
    have hzr := hx1.1
    clear hl hw hx0 hx1 hs hb hf
    by_cases hlt : k < phiN N
    · have hkI : (k : Int) < (phiN N : Int) := by omega
      obtain ⟨g, off, c9, hv, _⟩ := HL.out.at (by omega)
      obtain ⟨rfl, rfl⟩ : a1 = some ⟨g, off, none⟩ ∧ k1 = c9 := by cases hv; exact ⟨rfl, rfl⟩
      clear hv
      obtain ⟨hgl, hgh, _, _, _⟩ := HL.out.known (by omega)
      have hlr := Sl.list wr [0, 1, 1] (by intro x hx; simp only [List.mem_cons, List.not_mem_nil, or_false] at hx; unfold inR; rcases hx with rfl | rfl | rfl <;> omega) (by simp [maxLen])
      simp only [List.map_cons, List.map_nil, List.length_cons, List.length_nil] at hlr
      have HLR := Lib.hid hlr
      clear hlr
      go_wp2_with fail
      go_region_held3 (fun w' => w'.cell? ⟨w1.heap.size, 1, none⟩ = some (.slice (some ⟨g, off, none⟩) (phiN N) k1))
        (first | exact c1 | exact d7 | exact d6 | exact cell_later ((Below.refl _ _).alloc (Nat.le_refl _) _) d6 | exact cell_later (((Below.refl _ _).alloc (Nat.le_refl _) _).drew) c1 | exact cell_later ((Below.refl _ _).alloc (Nat.le_refl _) _) c1 | exact cell_set1 d7 (by omega) | go_keep)
        (first
          | (go_at_call 176; refine (l01DrawPart_any m _ (by first | exact HS.out.keep (Below.refl _ _).drew | exact HS.out.keep (((Below.refl _ _).alloc (Nat.le_refl _) _).drew)) (by first | exact HB.out.below (Below.refl _ _).drew | exact HB.out.below (((Below.refl _ _).alloc (Nat.le_refl _) _).drew)) hB hm hm2).mono ?_; rintro e w6 ⟨r6, rfl, hr61, hr62, hs6, hb6, f6⟩
             have hz6 := f6.size
             try simp only [World.size_drew, World.size_alloc] at hz6
             have d6 : w6.cell? ⟨w1.heap.size, 1, none⟩ = some (.slice (some ⟨g, off, none⟩) (phiN N) k1) := (f6.cell (p := ⟨w1.heap.size, 1, none⟩) (by show w1.heap.size < _; (try simp only [World.size_drew, World.size_alloc]); omega) (.inr (by show b + 1 ≤ w1.heap.size; omega))).trans (by first | exact c1 | exact cell_later (((Below.refl _ _).alloc (Nat.le_refl _) _).drew) c1))
          | (go_at_call 105; refine (l01Pick_any b B p n q _ (by first | exact hs6 | exact hs6.keep ((Below.refl _ _).alloc (Nat.le_refl _) _)) (by first | exact hb6 | exact hb6.below ((Below.refl _ _).alloc (Nat.le_refl _) _)) hB (f := fun j => [0, 1, 1].getD j 0) (by first | exact (HLR.out.drew).keepF f6 (.inr (by omega)) | exact Sl.list w6 [0, 1, 1] (by intro x hx; simp only [List.mem_cons, List.not_mem_nil, or_false] at hx; unfold inR; rcases hx with rfl | rfl | rfl <;> omega) (by simp [maxLen])) (k := 3) (.inr (by omega)) (by omega) (by omega)).mono ?_; rintro e w7 ⟨i7, hi7, rfl, hs7, f7⟩
             have hz7 := f7.size
             try simp only [World.size_drew, World.size_alloc] at hz7
             have d7 : w7.cell? ⟨w1.heap.size, 1, none⟩ = some (.slice (some ⟨g, off, none⟩) (phiN N) k1) := (f7.cell (p := ⟨w1.heap.size, 1, none⟩) (by show w1.heap.size < _; (try simp only [World.size_drew, World.size_alloc]); omega) (.inr (by show b + 1 ≤ w1.heap.size; omega))).trans (by first | exact d6 | exact cell_later ((Below.refl _ _).alloc (Nat.le_refl _) _) d6)
             have FT : Frame b (b + 1) wr w7 := by first | exact ((((Frame.refl b (b + 1) wr).alloc _).drew).trans f6).trans f7 | exact ((((Frame.refl b (b + 1) wr).drew).trans f6).trans ((Frame.refl b (b + 1) w6).alloc _)).trans f7
             have hl7 := HL.out.keepF FT (.inr (by omega))
             obtain ⟨_, _, _, hc7, hzz7⟩ := hl7.known (by omega)
             have hck7 := hc7 k hlt
             have hfr7 := hzz7 rfl (off + k)
             have hx7 : [0, 1, 1].getD i7 0 = (0 : Int) ∨ [0, 1, 1].getD i7 0 = (1 : Int) := by rcases i7 with _ | _ | _ | i7 <;> simp
             generalize ([0, 1, 1] : List Int).getD i7 0 = x7 at *
             have hpr : -1000000000 ≤ r6 * x7 ∧ r6 * x7 ≤ 1000000000 := by rcases hx7 with rfl | rfl <;> omega
             have hwp : IntKind.i64.wrap (r6 * x7) = r6 * x7 := IntWalk.i64_in _ (by omega)
             have HL7 := Lib.hid hl7
             clear hc7 hzz7 hl7 hx7))
      all_goals
        have FS : Frame (w.heap.size + 1) w1.heap.size w7 (w7.setCell ⟨g, off + k, none⟩ (.int .i64 (r6 * x7))) := (Frame.refl _ _ w7).setCell (lo := w.heap.size + 1) (hi := w1.heap.size) hgl hgh _
        go_wp2
        go_roundw
        case rel =>
          refine ⟨k + 1, fun j => if j = k then r6 * x7 else f j, by omega, by go_num, ?_, ?_, ?_, ?_, ?_, ?_, ?_⟩
          · exact ((HL7.out.store (i := k) (by omega) (by unfold inR; omega)).drewN 0).congr (fun j hj => by by_cases e : j = k <;> simp [e])
          · intro j hj
            dsimp only
            by_cases e : j = k
            · rw [if_pos e]; exact hpr
            · rw [if_neg e]; exact HW.out j hj
          · exact (HX0.out.keepF FT (.inr (by omega))).keepF FS (.inl (by omega))
          · exact (HX1.out.keepF FT (.inr (by omega))).keepF FS (.inr (Nat.le_refl _))
          · exact hs7.keepF FS (.inl (by omega))
          · exact (HB.out.frame FT hB).frameG FS (by omega)
          · exact (HF.out.trans FT).setNew (by show w.heap.size ≤ g; omega) _
        case measure => simp [intOf] <;> omega
    · obtain rfl : k = phiN N := by omega
      obtain ⟨d0, d1⟩ := HX0.out.cell2
      have FS : Frame w.heap.size (w.heap.size + 1) wr ((wr.setCell ⟨w.heap.size, 0, none⟩ (.int .i64 (N : Int))).setCell ⟨w.heap.size, 1, none⟩ (.slice a1 (phiN N) k1)) := ((Frame.refl w.heap.size (w.heap.size + 1) wr).setCell (Nat.le_refl _) (Nat.lt_succ_self _) _).setCell (Nat.le_refl _) (Nat.lt_succ_self _) _
      have dz := HX0.out.2.2
      go_wp2
      refine bodyPost_ret (v := .agg #[.int .i64 (N : Int), .slice a1 (phiN N) k1]) (by simp [results, Try.results126, go_sem, d0, d1]) rfl ?_
      refine ⟨_, _, f, rfl, ?_, HW.out, ?_, ?_, ?_⟩
      · exact ((HL.out.setOther (.inl (by show w.heap.size < _; omega)) _).setOther (.inl (by show w.heap.size < _; omega)) _).wide (by omega) (by simp; omega) (Nat.le_refl _)
      · exact HS.out.keepF FS (.inl (by omega))
      · exact HB.out.frameG FS (by omega)
      · exact (HF.out.setNew (Nat.le_refl _) _).setNew (Nat.le_refl _) _
end
end

section
open Go.RowKit Go.ChangeShapes Go.Sort
set_option linter.unusedVariables false
set_option linter.unusedSimpArgs false
section
variable {b B : Nat} {p : Option Addr} {n q : Nat}
set_option maxRecDepth 100000 in
set_option maxHeartbeats 2000000 in
theorem l01Draw_any (w : World) (hs : Src w b p n q) (hb : Bytes w B p n) (hB : B ≤ b) :
    Calls Try.prog 213 #[.pointer (some ⟨b, 0, none⟩)] w fun e w' => ∃ (N : Nat) (a : Option Addr) (cap : Nat) (f : Nat → Int), 1 ≤ N ∧ N ≤ 16 ∧ e = .returned (.agg #[.int .i64 (N : Int), .slice a (phiN N) cap]) ∧ Sl true w' w.heap.size w'.heap.size (.slice a (phiN N) cap) (phiN N) f ∧ Within f (phiN N) 1000000000 ∧ Src w' b p n q ∧ Bytes w' B p n ∧ Frame b (b + 1) w w' := by
  have hbz := hs.lt
  have ba := (Below.refl w.heap.size w).alloc (Nat.le_refl _) (.cells #[.int .i64 0, .slice none 0 0] 24)
  have hs0 := hs.keep ba
  have hb0 := hb.below ba
  have bx0 := Box.made2 (w := w) (b := w.heap.size) (v0 := .int .i64 0) (v1 := .slice none 0 0) (t := 24) rfl
  have f0 := (Frame.refl b (b + 1) w).alloc (.cells #[.int .i64 0, .slice none 0 0] 24)
  clear hs hb ba
  go_enter Try.func213, Try.ntmps213
  go_wp2_with fail
  refine (l01DrawOrder_any _ hs0 hb0 hB).mono ?_
  rintro e w1 ⟨N, rfl, hN1, hN2, hs1, hb1, f1⟩
  have hz1 := f1.size
  simp only [World.size_alloc] at hz1
  have bx1 := bx0.keepF f1 (.inr (by omega))
  have F1 := f0.trans f1
  clear hs0 hb0 bx0 f0 f1
  have hl := Sl.list w1 [1, 2, 3, 9, 1000, 400000000] (by intro x hx; simp only [List.mem_cons, List.not_mem_nil, or_false] at hx; unfold inR; rcases hx with rfl | rfl | rfl | rfl | rfl | rfl <;> omega) (by simp [maxLen])
  have hall : ∀ x ∈ [1, 2, 3, 9, 1000, (400000000 : Int)], 0 ≤ x ∧ x ≤ 1000000000 := by intro x hx; simp only [List.mem_cons, List.not_mem_nil, or_false] at hx; rcases hx with rfl | rfl | rfl | rfl | rfl | rfl <;> omega
  have ba := (Below.refl w1.heap.size w1).alloc (Nat.le_refl _) (.cells ([1, 2, 3, 9, 1000, 400000000].map (Value.int .i64)).toArray 2)
  have hs2 := hs1.keep ba
  have hb2 := hb1.below ba
  have bx2 := bx1.keep ba
  have F2 := F1.alloc (.cells ([1, 2, 3, 9, 1000, 400000000].map (Value.int .i64)).toArray 2)
  simp only [List.map_cons, List.map_nil, List.length_cons, List.length_nil] at hl hs2 hb2 bx2 F2
  have HALL := Lib.hid hall
  clear hall hs1 hb1 bx1 F1 ba
  go_wp2_with fail
  refine (l01Pick_any b B p n q _ hs2 hb2 hB hl (.inr (by omega)) (by omega) (by omega)).mono ?_
  rintro e w2 ⟨i, hi, rfl, hs3, f3⟩
  have hmem : 0 ≤ ([1, 2, 3, 9, 1000, 400000000] : List Int).getD i 0 ∧ ([1, 2, 3, 9, 1000, 400000000] : List Int).getD i 0 ≤ 1000000000 := by
    rw [List.getD_eq_getElem?_getD, List.getElem?_eq_getElem (by simpa using hi)]
    exact HALL.out _ (List.getElem_mem _)
  generalize ([1, 2, 3, 9, 1000, 400000000] : List Int).getD i 0 = x at *
  have hz3 := f3.size
  simp only [World.size_alloc] at hz3
  have hb3 := hb2.frame f3 hB
  have bx3 := bx2.keepF f3 (.inr (by omega))
  have F3 := F2.trans f3
  clear hb2 bx2 F2 f3 hs2 hl
  go_wp2_with fail
  refine (l01DrawOf_any N x _ hs3 hb3 hB hN1 hN2 hmem.1 hmem.2).mono ?_
  rintro e w4 ⟨a4, k4, f, rfl, s4, hw4, hs4, hb4, f4⟩
  have hz4 := f4.size
  have bx4 := bx3.keepF f4 (.inr (by omega))
  have F4 := F3.trans f4
  have S4 := Lib.hid s4
  have HS4 := Lib.hid hs4
  have HB4 := Lib.hid hb4
  have hw := Lib.hid hw4
  clear hs3 hb3 bx3 F3 f4 s4 hs4 hb4 hw4
  obtain ⟨d0, d1⟩ := bx4.cell2
  have dz := bx4.2.2
  have hbx := bx4.1
  clear bx4
  have FS : Frame w.heap.size (w.heap.size + 1) w4 ((w4.setCell ⟨w.heap.size, 0, none⟩ (.int .i64 (N : Int))).setCell ⟨w.heap.size, 1, none⟩ (.slice a4 (phiN N) k4)) := ((Frame.refl w.heap.size (w.heap.size + 1) w4).setCell (Nat.le_refl _) (Nat.lt_succ_self _) _).setCell (Nat.le_refl _) (Nat.lt_succ_self _) _
  go_wp2
  refine bodyPost_ret (v := .agg #[.int .i64 (N : Int), .slice a4 (phiN N) k4]) (by simp [results, Try.results213, go_sem, d0, d1]) rfl ?_
  refine ⟨N, _, _, f, hN1, hN2, rfl, ?_, hw.out, ?_, ?_, ?_⟩
  · exact ((S4.out.setOther (.inl (by show w.heap.size < _; omega)) _).setOther (.inl (by show w.heap.size < _; omega)) _).wide (by omega) (by simp) (Nat.le_refl _)
  · exact HS4.out.keepF FS (.inl (by omega))
  · exact HB4.out.frameG FS (by omega)
  · exact (F4.setNew (Nat.le_refl _) _).setNew (Nat.le_refl _) _
end
end

section
open Go.RowKit Go.ChangeShapes Go.Sort
set_option linter.unusedVariables false
set_option linter.unusedSimpArgs false

/-- The source lies in the block b, its bytes below B; boxes and slices lie apart from it. -/
def Ds (b B : Nat) (p : Option Addr) (n q : Nat) (W w : World) (bs : List (Nat × List Value)) (ss : List SlF) : Prop :=
  Frame b (b + 1) W w ∧ Src w b p n q ∧ Bytes w B p n ∧ (B ≤ b ∧ B ≤ W.heap.size) ∧ (∀ x ∈ bs, Box w x.1 x.2 ∧ x.1 ≠ b) ∧ (∀ s ∈ ss, Sl s.o w s.lo s.hi s.v s.n s.f ∧ (s.hi ≤ b ∨ b + 1 ≤ s.lo))
theorem Frame.set {lo hi g o : Nat} {a w : World} (h : Frame lo hi a w) (hl : lo ≤ g) (hh : g < hi) (u : Value) : Frame lo hi a (w.setCell ⟨g, o, none⟩ u) := h.setCell (p := ⟨g, o, none⟩) hl hh u
section
variable {b B : Nat} {p : Option Addr} {n q : Nat} {W w w' : World} {bs : List (Nat × List Value)} {ss : List SlF}
theorem Ds.start (hs : Src W b p n q) (hb : Bytes W B p n) (hB : B ≤ b) : Ds b B p n q W W [] [] :=
  ⟨Frame.refl _ _ _, hs, hb, ⟨hB, Nat.le_of_lt (Nat.lt_of_le_of_lt hB hs.lt)⟩, (fun _ h => absurd h List.not_mem_nil), (fun _ h => absurd h List.not_mem_nil)⟩
theorem Ds.src (h : Ds b B p n q W w bs ss) : Src w b p n q := h.2.1
theorem Ds.bytes (h : Ds b B p n q W w bs ss) : Bytes w B p n := h.2.2.1
theorem Ds.low (h : Ds b B p n q W w bs ss) : B ≤ b := h.2.2.2.1.1
theorem Ds.at (hB : B ≤ W.heap.size) (h0 : Below W.heap.size W w) (hs : Src w b p n q) (hb : Bytes w B p n) (hBb : B ≤ b) : Ds b B p n q W w [] [] :=
  ⟨Frame.of_below h0 (Nat.le_refl _), hs, hb, ⟨hBb, hB⟩, (fun _ h => absurd h List.not_mem_nil), (fun _ h => absurd h List.not_mem_nil)⟩
theorem Ds.below (h : Ds b B p n q W w bs ss) (hb : W.heap.size ≤ b) : Below W.heap.size W w := h.1.below hb (Nat.le_refl _)
theorem Ds.lt (h : Ds b B p n q W w bs ss) : b < w.heap.size := h.2.1.lt
theorem Ds.frame (h : Ds b B p n q W w bs ss) : Frame b (b + 1) W w := h.1
theorem Ds.size (h : Ds b B p n q W w bs ss) : W.heap.size ≤ w.heap.size := h.1.size
theorem Ds.box (h : Ds b B p n q W w bs ss) (i : Nat) (x : Nat × List Value) (hi : bs[i]? = some x) : Box w x.1 x.2 := (h.2.2.2.2.1 x (List.mem_of_getElem? hi)).1
theorem Ds.sl (h : Ds b B p n q W w bs ss) (i : Nat) (s : SlF) (hi : ss[i]? = some s) : Sl s.o w s.lo s.hi s.v s.n s.f := (h.2.2.2.2.2 s (List.mem_of_getElem? hi)).1
theorem Ds.apart (h : Ds b B p n q W w bs ss) (i : Nat) (s : SlF) (hi : ss[i]? = some s) : s.hi ≤ b ∨ b + 1 ≤ s.lo := (h.2.2.2.2.2 s (List.mem_of_getElem? hi)).2
theorem Ds.keep (h : Ds b B p n q W w bs ss) (hb : Below w.heap.size w w') : Ds b B p n q W w' bs ss :=
  ⟨h.1.trans (Frame.of_below hb (Nat.le_refl _)), h.2.1.keep hb, h.2.2.1.below hb, h.2.2.2.1, fun x hx => ⟨(h.2.2.2.2.1 x hx).1.keep hb, (h.2.2.2.2.1 x hx).2⟩, fun s hs => ⟨(h.2.2.2.2.2 s hs).1.keep hb (h.2.2.2.2.2 s hs).1.size, (h.2.2.2.2.2 s hs).2⟩⟩
/-- A number has been drawn. -/
theorem Ds.draw (h : Ds b B p n q W w bs ss) (hs : Src w' b p n q) (hf : Frame b (b + 1) w w') : Ds b B p n q W w' bs ss :=
  ⟨h.1.trans hf, hs, h.2.2.1.frame hf h.low, h.2.2.2.1, fun x hx => ⟨(h.2.2.2.2.1 x hx).1.keepF hf (by have := (h.2.2.2.2.1 x hx).2; omega), (h.2.2.2.2.1 x hx).2⟩, fun s hs => ⟨(h.2.2.2.2.2 s hs).1.keepF hf (h.2.2.2.2.2 s hs).2, (h.2.2.2.2.2 s hs).2⟩⟩
theorem Ds.alloc (h : Ds b B p n q W w bs ss) (o : Obj) : Ds b B p n q W (w.alloc o) bs ss := h.keep ((Below.refl _ _).alloc (Nat.le_refl _) _)
theorem Ds.drew (h : Ds b B p n q W w bs ss) : Ds b B p n q W w.drew bs ss := h.keep (Below.refl _ _).drew
theorem Ds.addSl (h : Ds b B p n q W w bs ss) (s : SlF) (hs : Sl s.o w s.lo s.hi s.v s.n s.f) (ha : s.hi ≤ b ∨ b + 1 ≤ s.lo) : Ds b B p n q W w bs (s :: ss) :=
  ⟨h.1, h.2.1, h.2.2.1, h.2.2.2.1, h.2.2.2.2.1, fun x hx => by
    rcases List.mem_cons.1 hx with rfl | hx
    · exact ⟨hs, ha⟩
    · exact h.2.2.2.2.2 x hx⟩
theorem Ds.addBox (h : Ds b B p n q W w bs ss) (c : Nat) (vs : List Value) (hb : Box w c vs) (hc : c ≠ b) : Ds b B p n q W w ((c, vs) :: bs) ss :=
  ⟨h.1, h.2.1, h.2.2.1, h.2.2.2.1, fun x hx => by
    rcases List.mem_cons.1 hx with rfl | hx
    · exact ⟨hb, hc⟩
    · exact h.2.2.2.2.1 x hx, h.2.2.2.2.2⟩
/-- A new box. -/
theorem Ds.newBox (h : Ds b B p n q W w bs ss) (vs : List Value) (t : TypeId) : Ds b B p n q W (w.alloc (.cells vs.toArray t)) ((w.heap.size, vs) :: bs) ss :=
  (h.alloc _).addBox _ _ (Box.made _ _ _ _ (fun j v h => by simpa using h)) (by have := h.lt; omega)
/-- Cells of a block of the call's own are written. -/
theorem Ds.write (h : Ds b B p n q W w bs ss) {lo hi : Nat} (hf : Frame lo hi w w') (hlo : W.heap.size ≤ lo) (hbl : b < lo ∨ hi ≤ b) (bs' : List (Nat × List Value)) (ss' : List SlF) (hbs : ∀ x ∈ bs', x ∈ bs ∧ (x.1 < lo ∨ hi ≤ x.1)) (hss : ∀ s ∈ ss', s ∈ ss ∧ (s.hi ≤ lo ∨ hi ≤ s.lo)) : Ds b B p n q W w' bs' ss' :=
  ⟨⟨hf.os.trans h.1.os, hf.tape.trans h.1.tape, hf.output.trans h.1.output, Nat.le_trans h.1.size hf.size, fun k hk hd => (hf.block k (Nat.lt_of_lt_of_le hk h.1.size) (.inl (by omega))).trans (h.1.block k hk hd)⟩, h.2.1.keepF hf hbl, h.2.2.1.frameG hf (by have := h.2.2.2.1.2; omega), h.2.2.2.1, fun x hx => ⟨(h.2.2.2.2.1 x (hbs x hx).1).1.keepF hf (hbs x hx).2, (h.2.2.2.2.1 x (hbs x hx).1).2⟩, fun s hs => ⟨(h.2.2.2.2.2 s (hss s hs).1).1.keepF hf (hss s hs).2, (h.2.2.2.2.2 s (hss s hs).1).2⟩⟩
end
end

section
open Go.RowKit Go.ChangeShapes Go.Sort
set_option linter.unusedVariables false
set_option linter.unusedSimpArgs false
set_option maxHeartbeats 400000 in
/-- A copy of a list that is not empty, as a list that grows. -/
theorem l01Own_row {o : Bool} {lo hi n : Nat} {v : Value} {f : Nat → Int} (w : World) (hs : Sl o w lo hi v n f) (h0 : 0 < n) (hn : n ≤ 1048576) :
    Calls Try.prog 187 #[v] w fun e w' => ∃ g' cap', e = .returned (.slice (some ⟨g', 0, none⟩) n cap') ∧ Row w' w.heap.size g' cap' n f ∧ Below w.heap.size w w' := by
  have hbd := hs.bd
  obtain ⟨i0, hi, hz0, hz1, hz2⟩ := info_parts Try.info2
  have hrow := World.ownsRow_made (e := 2) (size := 1) (base := w.heap.size) w #[] 0 (Nat.le_refl _) (Nat.zero_le _) rfl
  rcases hs.parts with ⟨rfl, rfl⟩ | ⟨ad, cap, rfl, hcell⟩
  · exact absurd h0 (Nat.lt_irrefl _)
  · have hm := hs.len
    have HS := Lib.hid hs; clear hs
    have HC := Lib.hid (fun j u hu => cell_later ((Below.refl w.heap.size w).alloc (Nat.le_refl _) (.cells #[] 2)) (hcell j u hu)); clear hcell
    have HB := Lib.hid hbd; clear hbd
    have HR := Lib.hid hrow; clear hrow
    go_enter Try.func187, Try.ntmps187
    go_wp2_with (at_builtin; refine wpList_append_own _ rfl (.tmp 3) (.tmp 4) 22 rfl w.heap.size 2 i0 (.int .i64 0) 1 8 Try.underlying22 hi hz0 hz1 hz2 rfl (by decide) _ 0 [] rfl HR.out ad n cap ((List.range n).map (fun j => Value.int .i64 (f j))) rfl (by simp) HC.out (fun x hx => by obtain ⟨j, _, rfl⟩ := List.mem_map.1 hx; rfl) (by omega) (by omega) (by simp) ?_; intro v' w1 hown hgrow _)
    go_ret
    simp only [Nat.zero_add, List.nil_append] at hown
    obtain ⟨g1, cap1, rfl, _, _⟩ := hown.form h0
    exact ⟨g1, cap1, rfl, hown, ((Below.refl _ _).alloc (Nat.le_refl _) _).grown hgrow (by simp) (fun k hk => by cases hk; exact Nat.le_refl _)⟩
/-- A number has been drawn, or something that is none: its Parts lie from the block lo on. -/
def DrC (b : Nat) (p : Option Addr) (n q lo M : Nat) (w : World) (e : Ending) (w' : World) : Prop :=
  ∃ (x : Int) (L : Nat) (a : Option Addr) (cap : Nat) (f : Nat → Int) (lo' hi' : Nat), e = .returned (.agg #[.int .i64 x, .slice a L cap]) ∧ inR x ∧ 0 < L ∧ L ≤ M ∧ Sl false w' lo' hi' (.slice a L cap) L f ∧ lo ≤ lo' ∧ Src w' b p n q ∧ Frame b (b + 1) w w'
theorem Row.sl {w : World} {base g cap n : Nat} {f : Nat → Int} (h : Row w base g cap n f) (hr : ∀ j, j < n → inR (f j)) (hm : n ≤ maxLen) : Sl true w base w.heap.size (.slice (some ⟨g, 0, none⟩) n cap) n f :=
  Sl.ofRowF h hr hm
section
variable {b B : Nat} {p : Option Addr} {n q : Nat} {o : Bool} {lo hi L : Nat} {v : Value} {f : Nat → Int}
set_option maxRecDepth 100000 in
set_option maxHeartbeats 4000000 in
theorem l01Bad_any (x : Int) (w : World) (hs : Src w b p n q) (hb : Bytes w B p n) (hB : B ≤ b) (hx : inR x) (hl : Sl o w lo hi v L f) (hlo : b + 1 ≤ lo) (hL0 : 0 < L) (hL : L ≤ 1000) :
    Calls Try.prog 212 #[.pointer (some ⟨b, 0, none⟩), .agg #[.int .i64 x, v]] w (DrC b p n q lo (L + 1) w) := by
  obtain ⟨av, cv, rfl⟩ := hl.shape
  have hlh : lo < hi := by obtain ⟨g, off, cap, _, h1, h2, _⟩ := hl.at hL0; omega
  have hbz := hs.lt
  have hlz := hl.size
  have st0 := (((Ds.start hs hb hB).addSl ⟨o, lo, hi, .slice av L cv, L, f⟩ hl (.inr hlo)).newBox [.int .i64 x, .slice av L cv] 24).newBox [.int .i64 0, .slice none 0 0] 24
  simp only [World.size_alloc] at st0
  clear hs hb hl
  go_enter Try.func212, Try.ntmps212
  go_wp2_with fail
  refine (l01Next_any b B p n q 50 _ st0.src st0.bytes hB (by omega) (by omega)).mono ?_
  rintro e w1 ⟨r, rfl, hr1, hr2, hs1, f1⟩
  have hz1 := f1.size
  simp only [World.size_alloc] at hz1
  have st1 := st0.draw hs1 f1
  clear st0 hs1 f1
  obtain ⟨c0, c1⟩ := (st1.box 1 (w.heap.size, [.int .i64 x, .slice av L cv]) rfl).cell2
  have cz := (st1.box 1 (w.heap.size, [.int .i64 x, .slice av L cv]) rfl).2.2
  obtain ⟨d0, d1⟩ := (st1.box 0 (w.heap.size + 1, [.int .i64 0, .slice none 0 0]) rfl).cell2
  have dz := (st1.box 0 (w.heap.size + 1, [.int .i64 0, .slice none 0 0]) rfl).2.2
  dsimp only at cz dz
  have ST := Lib.hid st1
  by_cases h0 : r = 0
  · subst h0
    have hl2 := Sl.list w1 [0, 17, -1] (by intro x hx; simp only [List.mem_cons, List.not_mem_nil, or_false] at hx; unfold inR; rcases hx with rfl | rfl | rfl <;> omega) (by simp [maxLen])
    have st2 := st1.alloc (.cells ([0, 17, -1].map (Value.int .i64)).toArray 2)
    simp only [List.map_cons, List.map_nil, List.length_cons, List.length_nil] at hl2 st2
    have hall : ∀ x ∈ [0, 17, (-1 : Int)], inR x := by intro x hx; simp only [List.mem_cons, List.not_mem_nil, or_false] at hx; unfold inR; rcases hx with rfl | rfl | rfl <;> omega
    have HALL := Lib.hid hall
    clear hall st1
    go_wp2_with fail
    refine (l01Pick_any b B p n q _ st2.src st2.bytes hB hl2 (.inr (by omega)) (by omega) (by omega)).mono ?_
    rintro e w2 ⟨i, hi', rfl, hs3, f3⟩
    have hmem : inR (([0, 17, -1] : List Int).getD i 0) := by
      rw [List.getD_eq_getElem?_getD, List.getElem?_eq_getElem (by simpa using hi')]
      exact HALL.out _ (List.getElem_mem _)
    generalize ([0, 17, -1] : List Int).getD i 0 = y at *
    have hz3 := f3.size
    simp only [World.size_alloc] at hz3
    have st3 := st2.draw hs3 f3
    have HY := Lib.hid hmem
    clear st2 hs3 f3 hl2 c0 c1 cz d0 d1 dz hmem
    obtain ⟨c0, c1⟩ := (st3.box 1 (w.heap.size, [.int .i64 x, .slice av L cv]) rfl).cell2
    have cz := (st3.box 1 (w.heap.size, [.int .i64 x, .slice av L cv]) rfl).2.2
    obtain ⟨d0, d1⟩ := (st3.box 0 (w.heap.size + 1, [.int .i64 0, .slice none 0 0]) rfl).cell2
    have dz := (st3.box 0 (w.heap.size + 1, [.int .i64 0, .slice none 0 0]) rfl).2.2
    dsimp only at cz dz
    have ST3 := Lib.hid st3
    clear st3
    go_wp2
    refine bodyPost_ret (v := .agg #[.int .i64 y, .slice av L cv]) (by simp [results, Try.results212, go_sem, d0, d1]) rfl ?_
    have FS : Frame w.heap.size (w.heap.size + 1 + 1) w2 (((w2.setCell ⟨w.heap.size, 0, none⟩ (.int .i64 y)).setCell ⟨w.heap.size + 1, 0, none⟩ (.int .i64 y)).setCell ⟨w.heap.size + 1, 1, none⟩ (.slice av L cv)) := (((Frame.refl _ _ w2).set (by omega) (by omega) _).set (by omega) (by omega) _).set (by omega) (by omega) _
    have st4 := ST3.out.write FS (Nat.le_refl _) (.inl hbz) [] [⟨o, lo, hi, .slice av L cv, L, f⟩] (fun x hx => by cases hx) (fun s hs => ⟨hs, by obtain rfl := List.mem_singleton.1 hs; exact .inl (by dsimp only; omega)⟩)
    exact ⟨y, L, av, cv, f, lo, hi, rfl, HY.out, hL0, by omega, (st4.sl 0 ⟨o, lo, hi, .slice av L cv, L, f⟩ rfl).rd, Nat.le_refl _, st4.src, st4.frame⟩
  · by_cases h1 : r = 1
    · subst h1
      have hs1 := st1.sl 0 ⟨o, lo, hi, .slice av L cv, L, f⟩ rfl
      dsimp only at hs1
      have HS1 := Lib.hid hs1
      clear st1 hs1
      go_wp2_with fail
      refine (l01Own_row _ HS1.out hL0 (by omega)).mono ?_
      rintro e w2 ⟨g2, k2, rfl, row2, b2⟩
      have hz2 := b2.size
      have st2 := ST.out.keep b2
      clear c0 c1 cz d0 d1 dz
      obtain ⟨c0, c1⟩ := (st2.box 1 (w.heap.size, [.int .i64 x, .slice av L cv]) rfl).cell2
      have cz := (st2.box 1 (w.heap.size, [.int .i64 x, .slice av L cv]) rfl).2.2
      obtain ⟨d0, d1⟩ := (st2.box 0 (w.heap.size + 1, [.int .i64 0, .slice none 0 0]) rfl).cell2
      have dz := (st2.box 0 (w.heap.size + 1, [.int .i64 0, .slice none 0 0]) rfl).2.2
      dsimp only at cz dz
      have ST2 := Lib.hid st2
      have R2 := Lib.hid row2
      have hg2 := row2.lt
      have c0' := cell_later ((Below.refl w2.heap.size w2).alloc (Nat.le_refl _) (.cells #[.int .i64 0] 2)) c0
      clear st2 row2 b2
      go_wp2_with (at_builtin; refine wpList_push rfl (.tmp 17) (.tmp 18) rfl rfl w1.heap.size g2 k2 L f rfl (R2.out.alloc _) w2.heap.size 0 rfl (heap_alloc_new w2 _) (by omega) ?_; intro gA kA wA rowA grA orA ltA
                   have st5 := (ST2.out.alloc (.cells #[.int .i64 0] 2)).write (Frame.ofGrown grA) (by omega) (by omega) [(w.heap.size + 1, [.int .i64 0, .slice none 0 0]), (w.heap.size, [.int .i64 x, .slice av L cv])] [⟨o, lo, hi, .slice av L cv, L, f⟩] (fun x hx => ⟨hx, by simp only [List.mem_cons, List.not_mem_nil, or_false] at hx; rcases hx with rfl | rfl <;> exact .inl (by dsimp only; omega)⟩) (fun s hs => ⟨hs, by obtain rfl := List.mem_singleton.1 hs; exact .inl (by dsimp only; omega)⟩)
                   clear c0 c1 cz d0 d1 dz c0'
                   obtain ⟨c0, c1⟩ := (st5.box 1 (w.heap.size, [.int .i64 x, .slice av L cv]) rfl).cell2
                   have cz := (st5.box 1 (w.heap.size, [.int .i64 x, .slice av L cv]) rfl).2.2
                   obtain ⟨d0, d1⟩ := (st5.box 0 (w.heap.size + 1, [.int .i64 0, .slice none 0 0]) rfl).cell2
                   have dz := (st5.box 0 (w.heap.size + 1, [.int .i64 0, .slice none 0 0]) rfl).2.2
                   dsimp only at cz dz
                   have ST5 := Lib.hid st5
                   have RA := Lib.hid rowA
                   have hzA := grA.size
                   simp only [World.size_alloc] at hzA
                   clear st5 rowA grA orA)
      refine bodyPost_ret (v := .agg #[.int .i64 x, .slice (some ⟨gA, 0, none⟩) (L + 1) kA]) (by simp [results, Try.results212, go_sem, d0, d1]) rfl ?_
      have hbd : ∀ j, j < L + 1 → inR (if j < L then f j else 0) := fun j hj => by
        by_cases e : j < L
        · rw [if_pos e]; exact HS1.out.bd j e
        · rw [if_neg e]; unfold inR; omega
      have sA := (RA.out.sl hbd (by unfold maxLen; omega)).rd
      have st6 := ST5.out.addSl ⟨false, w1.heap.size, wA.heap.size, .slice (some ⟨gA, 0, none⟩) (L + 1) kA, L + 1, fun j => if j < L then f j else 0⟩ sA (.inr (by dsimp only; omega))
      have FS : Frame w.heap.size (w.heap.size + 1 + 1) wA (((wA.setCell ⟨w.heap.size, 1, none⟩ (.slice (some ⟨gA, 0, none⟩) (L + 1) kA)).setCell ⟨w.heap.size + 1, 0, none⟩ (.int .i64 x)).setCell ⟨w.heap.size + 1, 1, none⟩ (.slice (some ⟨gA, 0, none⟩) (L + 1) kA)) := (((Frame.refl _ _ wA).set (by omega) (by omega) _).set (by omega) (by omega) _).set (by omega) (by omega) _
      have st7 := st6.write FS (Nat.le_refl _) (.inl hbz) [] [⟨false, w1.heap.size, wA.heap.size, .slice (some ⟨gA, 0, none⟩) (L + 1) kA, L + 1, fun j => if j < L then f j else 0⟩] (fun x hx => by cases hx) (fun s hs => ⟨List.mem_cons.2 (.inl (List.mem_singleton.1 hs)), by obtain rfl := List.mem_singleton.1 hs; exact .inr (by dsimp only; omega)⟩)
      exact ⟨x, L + 1, _, kA, _, _, _, rfl, hx, by omega, Nat.le_refl _, st7.sl 0 _ rfl, by show lo ≤ w1.heap.size; omega, st7.src, st7.frame⟩
    · by_cases h2 : r = 2
      · subst h2
        have hs1 := st1.sl 0 ⟨o, lo, hi, .slice av L cv, L, f⟩ rfl
        dsimp only at hs1
        have HS1 := Lib.hid hs1
        clear st1 hs1
        go_wp2_with fail
        refine (l01Own_row _ HS1.out hL0 (by omega)).mono ?_
        rintro e w2 ⟨g2, k2, rfl, row2, b2⟩
        have hz2 := b2.size
        have hg2 := row2.lt
        have st2 := (ST.out.keep b2).addSl ⟨true, w1.heap.size, w2.heap.size, .slice (some ⟨g2, 0, none⟩) L k2, L, f⟩ (row2.sl HS1.out.bd (by unfold maxLen; omega)) (.inr (by show b + 1 ≤ w1.heap.size; omega))
        clear c0 c1 cz d0 d1 dz row2 b2
        have bx3 := (st2.box 1 (w.heap.size, [.int .i64 x, .slice av L cv]) rfl)
        dsimp only at bx3
        obtain ⟨c0, c1⟩ := bx3.cell2
        have cz := bx3.2.2
        have bx3' := bx3.set (i := 1) (u := .slice (some ⟨g2, 0, none⟩) L k2) (by simp)
        have st3 := (st2.write (lo := w.heap.size) (hi := w.heap.size + 1) ((Frame.refl _ _ w2).set (o := 1) (Nat.le_refl _) (Nat.lt_succ_self _) (.slice (some ⟨g2, 0, none⟩) L k2)) (Nat.le_refl _) (.inl hbz) [(w.heap.size + 1, [.int .i64 0, .slice none 0 0])] [⟨true, w1.heap.size, w2.heap.size, .slice (some ⟨g2, 0, none⟩) L k2, L, f⟩] (fun x hx => ⟨by simp at hx ⊢; exact .inl hx, by obtain rfl := List.mem_singleton.1 hx; exact .inr (Nat.le_refl _)⟩) (fun s hs => ⟨by simp at hs ⊢; exact .inl hs, by obtain rfl := List.mem_singleton.1 hs; exact .inr (by dsimp only; omega)⟩)).addBox _ _ bx3' (by omega)
        have hl3 := (Sl.list (w2.setCell ⟨w.heap.size, 1, none⟩ (.slice (some ⟨g2, 0, none⟩) L k2)) [1000000001, -1000000001, 1099511627776] (by intro x hx; simp only [List.mem_cons, List.not_mem_nil, or_false] at hx; unfold inR; rcases hx with rfl | rfl | rfl <;> omega) (by simp [maxLen])).drew
        have st4 := (st3.alloc (.cells ([1000000001, -1000000001, 1099511627776].map (Value.int .i64)).toArray 2)).drew
        simp only [List.map_cons, List.map_nil, List.length_cons, List.length_nil, List.set_cons_succ, List.set_cons_zero, World.size_setCell] at hl3 st4 st3
        have hall : ∀ x ∈ [1000000001, -1000000001, (1099511627776 : Int)], inR x := by intro x hx; simp only [List.mem_cons, List.not_mem_nil, or_false] at hx; unfold inR; rcases hx with rfl | rfl | rfl <;> omega
        have HALL := Lib.hid hall
        have HL3 := Lib.hid hl3
        have ST4 := Lib.hid st4
        have c2 := (st3.box 0 (w.heap.size, [.int .i64 x, .slice (some ⟨g2, 0, none⟩) L k2]) rfl).cell2.2
        dsimp only at c2
        have C2 := Lib.hid c2
        clear hall hl3 st4 st3 st2 bx3 bx3' c2
        go_wp2_with fail
        have c1 := C2.out
        go_region_held3 (fun w' => w'.cell? ⟨w.heap.size, 1, none⟩ = some (.slice (some ⟨g2, 0, none⟩) L k2))
          (first | exact c1 | exact d6 | exact (World.cell?_setCell_other _ _ _ _ (by intro e; have := congrArg Addr.block e; dsimp only at this; omega)).trans d6 | exact cell_later ((Below.refl _ _).alloc (Nat.le_refl _) _) c1 | exact cell_later (((Below.refl _ _).alloc (Nat.le_refl _) _).drew) c1 | exact cell_later (Below.refl _ _).drew c1 | go_keep)
          (first
            | (go_at_call 105; refine (l01Pick_any b B p n q _ ST4.out.src ST4.out.bytes hB HL3.out (.inr (by omega)) (by omega) (by omega)).mono ?_; rintro e w6 ⟨i, hi', rfl, hs6, f6⟩
               have hz6 := f6.size
               try simp only [World.size_drew, World.size_alloc, World.size_setCell] at hz6
               have st6 := ST4.out.draw hs6 f6
               have d6 := (st6.box 0 (w.heap.size, [.int .i64 x, .slice (some ⟨g2, 0, none⟩) L k2]) rfl).cell2.2
               dsimp only at d6
               have hmem : inR (([1000000001, -1000000001, 1099511627776] : List Int).getD i 0) := by
                 rw [List.getD_eq_getElem?_getD, List.getElem?_eq_getElem (by simpa using hi')]
                 exact HALL.out _ (List.getElem_mem _)
               generalize ([1000000001, -1000000001, 1099511627776] : List Int).getD i 0 = y at *
               have HY := Lib.hid hmem
               obtain ⟨_, _, _, hc7, hzz7⟩ := (st6.sl 0 ⟨true, w1.heap.size, w2.heap.size, .slice (some ⟨g2, 0, none⟩) L k2, L, f⟩ rfl).known hL0
               have hck7 := hc7 0 hL0
               have hfr7 := hzz7 rfl 0
               rw [Nat.add_zero] at hck7
               dsimp only at hck7 hfr7
               have ST6 := Lib.hid st6
               clear hc7 hzz7 st6 hmem))
        all_goals
          have st6 := ST6.out
          have sA := (st6.sl 0 ⟨true, w1.heap.size, w2.heap.size, .slice (some ⟨g2, 0, none⟩) L k2, L, f⟩ rfl).store0 (i := 0) (x := y) hL0 HY.out
          have st7 := (st6.write (lo := w1.heap.size) (hi := w2.heap.size) ((Frame.refl _ _ w6).set (g := g2) (o := 0) (by omega) (by omega) (.int .i64 y)) (by omega) (by omega) [(w.heap.size, [.int .i64 x, .slice (some ⟨g2, 0, none⟩) L k2]), (w.heap.size + 1, [.int .i64 0, .slice none 0 0])] [] (fun x hx => ⟨hx, by simp only [List.mem_cons, List.not_mem_nil, or_false] at hx; rcases hx with rfl | rfl <;> exact .inl (by dsimp only; omega)⟩) (fun s hs => by cases hs)).addSl ⟨true, w1.heap.size, w2.heap.size, .slice (some ⟨g2, 0, none⟩) L k2, L, fun j => if j = 0 then y else f j⟩ sA (.inr (by show b + 1 ≤ w1.heap.size; omega))
          obtain ⟨c0, c1⟩ := (st7.box 0 (w.heap.size, [.int .i64 x, .slice (some ⟨g2, 0, none⟩) L k2]) rfl).cell2
          have cz := (st7.box 0 (w.heap.size, [.int .i64 x, .slice (some ⟨g2, 0, none⟩) L k2]) rfl).2.2
          obtain ⟨d0, d1⟩ := (st7.box 1 (w.heap.size + 1, [.int .i64 0, .slice none 0 0]) rfl).cell2
          have dz := (st7.box 1 (w.heap.size + 1, [.int .i64 0, .slice none 0 0]) rfl).2.2
          dsimp only at c0 c1 d0 d1 cz dz
          have ST7 := Lib.hid st7
          clear st6 st7 sA
          go_wp2
          refine bodyPost_ret (v := .agg #[.int .i64 x, .slice (some ⟨g2, 0, none⟩) L k2]) (by simp [results, Try.results212, go_sem, d0, d1]) rfl ?_
          have FS : Frame w.heap.size (w.heap.size + 1 + 1) (w6.setCell ⟨g2, 0, none⟩ (.int .i64 y)) (((w6.setCell ⟨g2, 0, none⟩ (.int .i64 y)).setCell ⟨w.heap.size + 1, 0, none⟩ (.int .i64 x)).setCell ⟨w.heap.size + 1, 1, none⟩ (.slice (some ⟨g2, 0, none⟩) L k2)) := ((Frame.refl _ _ _).set (by omega) (by omega) _).set (by omega) (by omega) _
          have st8 := ST7.out.write FS (Nat.le_refl _) (.inl hbz) [] [⟨true, w1.heap.size, w2.heap.size, .slice (some ⟨g2, 0, none⟩) L k2, L, fun j => if j = 0 then y else f j⟩] (fun x hx => by cases hx) (fun s hs => ⟨List.mem_cons.2 (.inl (List.mem_singleton.1 hs)), by obtain rfl := List.mem_singleton.1 hs; exact .inr (by dsimp only; omega)⟩)
          exact ⟨x, L, _, k2, _, _, _, rfl, hx, hL0, by omega, (st8.sl 0 _ rfl).rd, by show lo ≤ w1.heap.size; omega, st8.src, st8.frame⟩
      · have e0 : (r == 0) = false := by simpa using h0
        have e1 : (r == 1) = false := by simpa using h1
        have e2 : (r == 2) = false := by simpa using h2
        clear st1
        go_wp2
        refine bodyPost_ret (v := .agg #[.int .i64 x, .slice av L cv]) (by simp [results, Try.results212, go_sem, d0, d1]) rfl ?_
        have FS : Frame w.heap.size (w.heap.size + 1 + 1) w1 ((w1.setCell ⟨w.heap.size + 1, 0, none⟩ (.int .i64 x)).setCell ⟨w.heap.size + 1, 1, none⟩ (.slice av L cv)) := ((Frame.refl _ _ w1).set (by omega) (by omega) _).set (by omega) (by omega) _
        have st4 := ST.out.write FS (Nat.le_refl _) (.inl hbz) [] [⟨o, lo, hi, .slice av L cv, L, f⟩] (fun x hx => by cases hx) (fun s hs => ⟨hs, by obtain rfl := List.mem_singleton.1 hs; exact .inl (by dsimp only; omega)⟩)
        exact ⟨x, L, av, cv, f, lo, hi, rfl, hx, hL0, by omega, (st4.sl 0 ⟨o, lo, hi, .slice av L cv, L, f⟩ rfl).rd, Nat.le_refl _, st4.src, st4.frame⟩
end
end

section
open Go.RowKit Go.ChangeShapes Go.Sort
set_option linter.unusedVariables false
set_option linter.unusedSimpArgs false
/-- A prime and a divisor, or what is none. -/
def DrP6 (b : Nat) (p : Option Addr) (n q : Nat) (w : World) (e : Ending) (w' : World) : Prop :=
  ∃ P E : Int, e = .returned (.tuple #[.int .i64 P, .int .i64 E]) ∧ -3 ≤ P ∧ P ≤ 67 ∧ 0 ≤ E ∧ E ≤ 13 ∧ Src w' b p n q ∧ Frame b (b + 1) w w'
theorem l06Primes_any (w : World) : Calls Try.prog 182 #[] w fun e w' => e = .returned (.slice (some ⟨w.heap.size, 0, none⟩) 17 17) ∧ w' = w.alloc (.cells ([3, 5, 7, 11, 13, 17, 19, 23, 29, 31, 37, 41, 43, 47, 53, 59, 61].map (Value.int .i64)).toArray 2) := by
  go_enter Try.func182, Try.ntmps182
  go_wp2
  go_ret
  exact ⟨rfl, rfl⟩
theorem primes_in : ∀ i, i < 17 → 3 ≤ ([3, 5, 7, 11, 13, 17, 19, 23, 29, 31, 37, 41, 43, 47, 53, 59, 61] : List Int).getD i 0 ∧ ([3, 5, 7, 11, 13, 17, 19, 23, 29, 31, 37, 41, 43, 47, 53, 59, 61] : List Int).getD i 0 ≤ 61 := by decide
section
variable {b B : Nat} {p : Option Addr} {n q : Nat}
end
end

section
open Go.RowKit Go.ChangeShapes Go.Sort
set_option linter.unusedVariables false
set_option linter.unusedSimpArgs false
set_option maxRecDepth 100000
set_option maxHeartbeats 4000000
section
variable {b B : Nat} {p : Option Addr} {n q : Nat}
theorem l08Prime_any (w : World) (hs : Src w b p n q) (hb : Bytes w B p n) (hB : B ≤ b) :
    Calls Try.prog 135 #[.pointer (some ⟨b, 0, none⟩)] w fun e w' => ∃ P : Int, e = .returned (.int .i64 P) ∧ 2 ≤ P ∧ P ≤ 67 ∧ Src w' b p n q ∧ Bytes w' B p n ∧ Frame b (b + 1) w w' := by
  have st0 := Ds.start hs hb hB
  have hbz := hs.lt
  clear hs hb
  go_enter Try.func135, Try.ntmps135
  have hl := Sl.list w [3, 5, 7, 11, 13, 17, 19, 23, 29, 31, 37, 41, 43, 47, 53, 59, 61] (by intro x hx; simp only [List.mem_cons, List.not_mem_nil, or_false] at hx; unfold inR; rcases hx with rfl | rfl | rfl | rfl | rfl | rfl | rfl | rfl | rfl | rfl | rfl | rfl | rfl | rfl | rfl | rfl | rfl <;> omega) (by simp [maxLen])
  replace st0 := st0.alloc (.cells ([3, 5, 7, 11, 13, 17, 19, 23, 29, 31, 37, 41, 43, 47, 53, 59, 61].map (Value.int .i64)).toArray 2)
  have st1 := st0.addSl ⟨true, w.heap.size, w.heap.size + 1, .slice (some ⟨w.heap.size, 0, none⟩) 17 17, 17, fun i => ([3, 5, 7, 11, 13, 17, 19, 23, 29, 31, 37, 41, 43, 47, 53, 59, 61] : List Int).getD i 0⟩ hl (.inr (by dsimp only; omega))
  clear hl st0
  go_wp2_with fail
  refine (l06Primes_any _).mono ?_
  rintro e w1 ⟨rfl, rfl⟩
  go_wp2_with fail
  refine (l01Next_any _ _ _ _ _ 30 _ st1.src st1.bytes st1.low (by omega) (by omega)).mono ?_
  rintro e w2 ⟨r, rfl, hr1, hr2, hs2, f2⟩
  have st2 := st1.draw hs2 f2
  clear st1 hs2 f2
  by_cases h0 : r = 0
  · subst h0
    have hl_w4 := Sl.list w2 [2, 15, 67] (by intro x hx; simp only [List.mem_cons, List.not_mem_nil, or_false] at hx; unfold inR; rcases hx with rfl | rfl | rfl <;> omega) (by simp [maxLen])
    have hlt_w4 := st2.lt
    have sa_w4 := st2.alloc (.cells (([2, 15, 67] : List Int).map (Value.int .i64)).toArray 2)
    have hall_w4 : ∀ x ∈ ([2, 15, 67] : List Int), 2 ≤ x ∧ x ≤ 67 := by intro x hx; simp only [List.mem_cons, List.not_mem_nil, or_false] at hx; rcases hx with rfl | rfl | rfl <;> omega
    simp only [List.map_cons, List.map_nil, List.length_cons, List.length_nil] at hl_w4 sa_w4
    have HALL_w4 := Lib.hid hall_w4
    clear hall_w4
    go_wp2_with fail
    refine (l01Pick_any _ _ _ _ _ _ sa_w4.src sa_w4.bytes sa_w4.low hl_w4 (.inr (by omega)) (by omega) (by omega)).mono ?_
    rintro e w4 ⟨i_w4, hi_w4, rfl, hs_w4, f_w4⟩
    have st_w4 := sa_w4.draw hs_w4 f_w4
    have hm_w4 : 2 ≤ ([2, 15, 67] : List Int).getD i_w4 0 ∧ ([2, 15, 67] : List Int).getD i_w4 0 ≤ 67 := by
      rw [List.getD_eq_getElem?_getD, List.getElem?_eq_getElem (by simpa using hi_w4)]
      exact HALL_w4.out _ (List.getElem_mem _)
    generalize ([2, 15, 67] : List Int).getD i_w4 0 = x_w4 at *
    go_wp2
    go_ret
    exact ⟨x_w4, rfl, hm_w4.1, hm_w4.2, st_w4.src, st_w4.bytes, st_w4.frame⟩
  · have h0b : (r == 0) = false := beq_eq_false_iff_ne.2 h0
    have hl_w4 := Sl.list w2 [6, 17] (by intro x hx; simp only [List.mem_cons, List.not_mem_nil, or_false] at hx; unfold inR; rcases hx with rfl | rfl <;> omega) (by simp [maxLen])
    have hlt_w4 := st2.lt
    have sa_w4 := st2.alloc (.cells (([6, 17] : List Int).map (Value.int .i64)).toArray 2)
    have hall_w4 : ∀ x ∈ ([6, 17] : List Int), 6 ≤ x ∧ x ≤ 17 := by intro x hx; simp only [List.mem_cons, List.not_mem_nil, or_false] at hx; rcases hx with rfl | rfl <;> omega
    simp only [List.map_cons, List.map_nil, List.length_cons, List.length_nil] at hl_w4 sa_w4
    have HALL_w4 := Lib.hid hall_w4
    clear hall_w4
    go_wp2_with fail
    refine (l01Pick_any _ _ _ _ _ _ sa_w4.src sa_w4.bytes sa_w4.low hl_w4 (.inr (by omega)) (by omega) (by omega)).mono ?_
    rintro e w4 ⟨i_w4, hi_w4, rfl, hs_w4, f_w4⟩
    have st_w4 := sa_w4.draw hs_w4 f_w4
    have hm_w4 : 6 ≤ ([6, 17] : List Int).getD i_w4 0 ∧ ([6, 17] : List Int).getD i_w4 0 ≤ 17 := by
      rw [List.getD_eq_getElem?_getD, List.getElem?_eq_getElem (by simpa using hi_w4)]
      exact HALL_w4.out _ (List.getElem_mem _)
    generalize ([6, 17] : List Int).getD i_w4 0 = x_w4 at *
    go_wp2_with fail
    refine (l01Next_any _ _ _ _ _ x_w4 _ st_w4.src st_w4.bytes st_w4.low (by omega) (by omega)).mono ?_
    rintro e w5 ⟨y, rfl, hy1, hy2, hs5, f5⟩
    have st5 := st_w4.draw hs5 f5
    obtain ⟨i, rfl⟩ := Int.eq_ofNat_of_zero_le hy1
    have hi17 : i < 17 := by omega
    have hci := ((st5.sl 0 ⟨true, w.heap.size, w.heap.size + 1, .slice (some ⟨w.heap.size, 0, none⟩) 17 17, 17, fun i => ([3, 5, 7, 11, 13, 17, 19, 23, 29, 31, 37, 41, 43, 47, 53, 59, 61] : List Int).getD i 0⟩ rfl).known (by show 0 < 17; omega)).2.2.2.1 i hi17
    rw [Nat.zero_add] at hci
    have hPb := primes_in i hi17
    dsimp only at hci
    obtain ⟨P, hP⟩ : ∃ P, ([3, 5, 7, 11, 13, 17, 19, 23, 29, 31, 37, 41, 43, 47, 53, 59, 61] : List Int).getD i 0 = P := ⟨_, rfl⟩
    rw [hP] at hci hPb
    clear hP
    go_wp2
    go_ret
    exact ⟨P, rfl, by omega, by omega, st5.src, st5.bytes, st5.frame⟩
end
theorem DrawBernoulliOf_any (B : Nat) (p : Option Addr) (n q : Nat) (w : World) (hb : Bytes w B p n) (hB : B ≤ w.heap.size) :
    Calls Try.prog 56 #[.slice p n q] w fun e w' => ∃ K : Int, e = .returned (.int .i64 K) ∧ 0 ≤ K ∧ K ≤ 21 ∧ Below w.heap.size w w' := by
  have HB := Lib.hid hb
  clear hb
  go_enter Try.func56, Try.ntmps56
  go_wp2_with fail
  refine (l01From_any B p n q _ HB.out hB).mono ?_
  rintro e w1 ⟨rfl, hs1, hb1, b1⟩
  clear HB
  go_wp2_with fail
  refine (l01Next_any _ _ _ _ _ 22 _ hs1 hb1 hB (by omega) (by omega)).mono ?_
  rintro e w2 ⟨K, rfl, hK1, hK2, hs2, f2⟩
  have hb2 := hb1.frame f2 hB
  have b2 := b1.trans (f2.below (Nat.le_refl _) b1.size)
  clear hs1 hb1 b1 f2
  go_wp2
  go_ret
  exact ⟨K, rfl, hK1, by omega, b2⟩
theorem DrawBernoulliModulo_any (B : Nat) (p : Option Addr) (n q : Nat) (w : World) (hb : Bytes w B p n) (hB : B ≤ w.heap.size) :
    Calls Try.prog 59 #[.slice p n q] w fun e w' => ∃ P M : Int, e = .returned (.tuple #[.int .i64 P, .int .i64 M]) ∧ 2 ≤ P ∧ P ≤ 67 ∧ 0 ≤ M ∧ M ≤ 200 ∧ Below w.heap.size w w' := by
  have HB := Lib.hid hb
  clear hb
  go_enter Try.func59, Try.ntmps59
  go_wp2_with fail
  refine (l01From_any B p n q _ HB.out hB).mono ?_
  rintro e w1 ⟨rfl, hs1, hb1, b1⟩
  clear HB
  go_wp2_with fail
  refine (l08Prime_any _ hs1 hb1 hB).mono ?_
  rintro e w2 ⟨P, rfl, hP1, hP2, hs2, hb2, f2⟩
  have b2 := b1.trans (f2.below (Nat.le_refl _) b1.size)
  clear hs1 hb1 b1 f2
  go_wp2_with fail
  all_goals
    refine (l01Next_any _ _ _ _ _ _ _ hs2 hb2 hB (by omega) (by omega)).mono ?_
    rintro e w3 ⟨x, rfl, hx1, hx2, hs3, f3⟩
    have hb3 := hb2.frame f3 hB
    have b3 := b2.trans (f3.below (Nat.le_refl _) b2.size)
    clear hs2 hb2 b2 f3
    go_wp2_with fail
    refine (l01Next_any _ _ _ _ _ 12 _ hs3 hb3 hB (by omega) (by omega)).mono ?_
    rintro e w4 ⟨y, rfl, hy1, hy2, hs4, f4⟩
    have hb4 := hb3.frame f4 hB
    have b4 := b3.trans (f4.below (Nat.le_refl _) b3.size)
    clear hs3 hb3 b3 f4
    go_wp2
    refine bodyPost_ret (v := .tuple #[.int .i64 P, .int .i64 (2 * x + y / 11)]) (by simp [results, Try.results59, go_sem]) rfl ?_
    exact ⟨P, _, rfl, hP1, hP2, by omega, by omega, b4⟩
theorem DrawIrregularOf_any (B : Nat) (p : Option Addr) (n q : Nat) (w : World) (hb : Bytes w B p n) (hB : B ≤ w.heap.size) :
    Calls Try.prog 62 #[.slice p n q] w fun e w' => ∃ Q : Int, e = .returned (.int .i64 Q) ∧ 2 ≤ Q ∧ Q ≤ 67 ∧ Below w.heap.size w w' := by
  have HB := Lib.hid hb
  clear hb
  go_enter Try.func62, Try.ntmps62
  go_wp2_with fail
  refine (l01From_any B p n q _ HB.out hB).mono ?_
  rintro e w1 ⟨rfl, hs1, hb1, b1⟩
  clear HB
  go_wp2_with fail
  refine (l08Prime_any _ hs1 hb1 hB).mono ?_
  rintro e w2 ⟨P, rfl, hP1, hP2, hs2, hb2, f2⟩
  have b2 := b1.trans (f2.below (Nat.le_refl _) b1.size)
  clear hs1 hb1 b1 f2
  go_wp2_with fail
  refine (l08Prime_any _ hs2 hb2 hB).mono ?_
  rintro e w3 ⟨R, rfl, hR1, hR2, hs3, hb3, f3⟩
  have b3 := b2.trans (f3.below (Nat.le_refl _) b2.size)
  clear hs2 hb2 b2 f3
  have st3 := Ds.at (W := w3) (p := p) (n := n) (q := q) (by have := b3.size; omega) (Below.refl _ _) hs3 hb3 hB
  have hl_w4 := Sl.list w3 [37, 59, P, R] (by intro x hx; simp only [List.mem_cons, List.not_mem_nil, or_false] at hx; unfold inR; rcases hx with rfl | rfl | rfl | rfl <;> omega) (by simp [maxLen])
  have hlt_w4 := st3.lt
  have sa_w4 := st3.alloc (.cells (([37, 59, P, R] : List Int).map (Value.int .i64)).toArray 2)
  have hall_w4 : ∀ x ∈ ([37, 59, P, R] : List Int), 2 ≤ x ∧ x ≤ 67 := by intro x hx; simp only [List.mem_cons, List.not_mem_nil, or_false] at hx; rcases hx with rfl | rfl | rfl | rfl <;> omega
  simp only [List.map_cons, List.map_nil, List.length_cons, List.length_nil] at hl_w4 sa_w4
  have HALL_w4 := Lib.hid hall_w4
  clear hall_w4
  go_wp2_with fail
  refine (l01Pick_any _ _ _ _ _ _ sa_w4.src sa_w4.bytes sa_w4.low hl_w4 (.inr (by omega)) (by omega) (by omega)).mono ?_
  rintro e w4 ⟨i_w4, hi_w4, rfl, hs_w4, f_w4⟩
  have st_w4 := sa_w4.draw hs_w4 f_w4
  have hm_w4 : 2 ≤ ([37, 59, P, R] : List Int).getD i_w4 0 ∧ ([37, 59, P, R] : List Int).getD i_w4 0 ≤ 67 := by
    rw [List.getD_eq_getElem?_getD, List.getElem?_eq_getElem (by simpa using hi_w4)]
    exact HALL_w4.out _ (List.getElem_mem _)
  generalize ([37, 59, P, R] : List Int).getD i_w4 0 = x_w4 at *
  have b4 := b3.trans ((((Frame.refl w.heap.size (w.heap.size + 1) w3).alloc _).trans f_w4).below (Nat.le_refl _) b3.size)
  go_wp2
  go_ret
  exact ⟨x_w4, rfl, hm_w4.1, hm_w4.2, b4⟩
theorem DrawCyclotomicUnit_any (B : Nat) (p : Option Addr) (n q : Nat) (w : World) (hb : Bytes w B p n) (hB : B ≤ w.heap.size) :
    Calls Try.prog 65 #[.slice p n q] w fun e w' => ∃ N A : Int, e = .returned (.tuple #[.int .i64 N, .int .i64 A]) ∧ 1 ≤ N ∧ N ≤ 36 ∧ 0 ≤ A ∧ A ≤ 40 ∧ Below w.heap.size w w' := by
  have HB := Lib.hid hb
  clear hb
  go_enter Try.func65, Try.ntmps65
  go_wp2_with fail
  refine (l01From_any B p n q _ HB.out hB).mono ?_
  rintro e w1 ⟨rfl, hs1, hb1, b1⟩
  clear HB
  go_wp2_with fail
  refine (l01DrawOrder_any _ hs1 hb1 hB).mono ?_
  rintro e w2 ⟨N, rfl, hN1, hN2, hs2, hb2, f2⟩
  have b2 := b1.trans (f2.below (Nat.le_refl _) b1.size)
  clear hs1 hb1 b1 f2
  go_wp2_with fail
  refine (l01Next_any _ _ _ _ _ 40 _ hs2 hb2 hB (by omega) (by omega)).mono ?_
  rintro e w3 ⟨x, rfl, hx1, hx2, hs3, f3⟩
  have hb3 := hb2.frame f3 hB
  have b3 := b2.trans (f3.below (Nat.le_refl _) b2.size)
  clear hs2 hb2 b2 f3
  have hxq : 0 ≤ x / 39 ∧ x / 39 ≤ 1 := by omega
  obtain ⟨d, hd⟩ : ∃ d, x / 39 = d := ⟨_, rfl⟩
  rw [hd] at hxq
  have hdt : x.tdiv 39 = d := by rw [Int.tdiv_eq_ediv_of_nonneg hx1]; exact hd
  go_wp2_with fail
  refine (l01Next_any _ _ _ _ _ _ _ hs3 hb3 hB (by omega) (by omega)).mono ?_
  rintro e w4 ⟨A, rfl, hA1, hA2, hs4, f4⟩
  have hb4 := hb3.frame f4 hB
  have b4 := b3.trans (f4.below (Nat.le_refl _) b3.size)
  clear hs3 hb3 b3 f4
  go_wp2
  refine bodyPost_ret (v := .tuple #[.int .i64 ((N : Int) + d * 20), .int .i64 A]) (by simp [results, Try.results65, go_sem]) rfl ?_
  exact ⟨_, A, rfl, by omega, by omega, hA1, by omega, b4⟩
end

section
open Go.RowKit Go.ChangeShapes Go.Sort
set_option linter.unusedVariables false
set_option linter.unusedSimpArgs false

section
variable {o : Bool} {lo hi n : Nat} {v : Value} {f : Nat → Int}
set_option maxHeartbeats 800000 in
theorem likeInts_yes {o' : Bool} {lo' hi' : Nat} {v' : Value} {f' : Nat → Int} (w : World) (hs : Sl o w lo hi v n f) (hs' : Sl o' w lo' hi' v' n f') (he : ∀ j, j < n → f j = f' j) :
    Calls Try.prog 42 #[v, v'] w fun e w' => e = .returned (.bool true) ∧ Below w.heap.size w w' := by
  obtain ⟨a, cap, rfl⟩ := hs.shape
  obtain ⟨a', cap', rfl⟩ := hs'.shape
  have hm := hs.len
  unfold maxLen at hm
  have HS := Lib.hid hs; clear hs
  have HS' := Lib.hid hs'; clear hs'
  have HE := Lib.hid he; clear he
  go_enter Try.func42, Try.ntmps42
  go_wp2
  go_loopw [5] (fun i wr => ∃ k : Nat, k ≤ n ∧ i = .int .i64 k ∧ Below w.heap.size w wr) (fun i _ => n - (intOf i).toNat)
  case atStart => exact ⟨0, Nat.zero_le _, rfl, Below.refl _ _⟩
  case round =>
    obtain ⟨k, hk, rfl, hb⟩ := hrel
    by_cases hlt : k < n
    · obtain ⟨g, off, c1, hv, _, hg, _, _, hc, _⟩ := HS.out.at (by omega)
      have hgs : g < w.heap.size := Nat.lt_of_lt_of_le hg HS.out.size
      obtain ⟨rfl, rfl⟩ : a = some ⟨g, off, none⟩ ∧ cap = c1 := by cases hv; exact ⟨rfl, rfl⟩
      obtain ⟨g', off', c1', hv', _, hg', _, _, hc', _⟩ := HS'.out.at (by omega)
      have hgs' : g' < w.heap.size := Nat.lt_of_lt_of_le hg' HS'.out.size
      obtain ⟨rfl, rfl⟩ : a' = some ⟨g', off', none⟩ ∧ cap' = c1' := by cases hv'; exact ⟨rfl, rfl⟩
      clear hv hg hv' hg'
      have hck : wr.cell? ⟨g, off + k, none⟩ = some (.int .i64 (f k)) := by rw [hb.cell (p := ⟨g, off + k, none⟩) hgs]; exact hc k hlt
      have hck' : wr.cell? ⟨g', off' + k, none⟩ = some (.int .i64 (f k)) := by rw [hb.cell (p := ⟨g', off' + k, none⟩) hgs', HE.out k hlt]; exact hc' k hlt
      clear hc hc'
      go_wp2
      go_quiet (fail)
      go_wp2
      go_roundw
      case rel => exact ⟨k + 1, by omega, by go_num, below_drewN hb _⟩
      case measure => simp [intOf]; omega
    · go_wp2
      go_ret
      exact ⟨rfl, hb⟩

set_option maxHeartbeats 800000 in
theorem cyclo9_yes {o' : Bool} {lo' hi' : Nat} {v' : Value} {f' : Nat → Int} (x : Int) (w : World) (hs : Sl o w lo hi v n f) (hs' : Sl o' w lo' hi' v' n f') (he : ∀ j, j < n → f j = f' j) :
    Calls Try.prog 54 #[.agg #[.int .i64 x, v], .agg #[.int .i64 x, v']] w fun e w' => e = .returned (.bool true) ∧ Below w.heap.size w w' := by
  obtain ⟨a, cap, rfl⟩ := hs.shape
  obtain ⟨a', cap', rfl⟩ := hs'.shape
  have HS := Lib.hid hs; clear hs
  have HS' := Lib.hid hs'; clear hs'
  have HE := Lib.hid he; clear he
  go_enter Try.func54, Try.ntmps54
  go_wp2_with (go_at_call 42; refine (likeInts_yes _ ((HS.out.alloc _).alloc _) ((HS'.out.alloc _).alloc _) HE.out).mono ?_; rintro e w1 ⟨rfl, hb⟩)
  go_ret
  exact ⟨rfl, (((Below.refl w.heap.size w).alloc (Nat.le_refl _) _).alloc (by simp) _).trans (hb.mono (by simp; omega))⟩

end
theorem big_no (p : Option Addr) (n q : Nat) (w : World) (h : n ≤ 4096) : Calls Try.prog 23 #[.slice p n q] w fun e w' => e = .returned (.bool false) ∧ Below w.heap.size w w' := by
  have hh : ¬ (4096 < (n : Int)) := by omega
  go_enter Try.func23, Try.ntmps23
  go_wp2
  go_ret
  exact ⟨rfl, Below.refl _ _⟩
theorem big_yes (p : Option Addr) (n q : Nat) (w : World) (h : 4096 < n) : Calls Try.prog 23 #[.slice p n q] w fun e w' => e = .returned (.bool true) ∧ Below w.heap.size w w' := by
  have hd : decide ((4096 : Int) < (n : Int)) = true := decide_eq_true (by omega)
  go_enter Try.func23, Try.ntmps23
  go_wp2
  go_ret
  exact ⟨by first | rfl | (show Ending.returned (.bool (decide ((4096 : Int) < (n : Int)))) = _; rw [hd]), Below.refl _ _⟩
/-- A code that came in. -/
theorem Bytes.came {H : Type} {enc : TypeId × Value → H} {P : Program} {W : World} {t e : TypeId} {fuel : Nat} {c : Value} {y : DataW H × List MemPlace}
    (ht : P.underlying t = some (.slice e)) (he : P.underlying e = some (.int .u8)) (hc : P.cellsOf e = 1)
    (h : DataW.trod enc P W 0 (fun _ => true) true fuel t [c] = some y) : ∃ p n q, c = .slice p n q ∧ (n ≤ 4096 → Bytes W W.heap.size p n) := by
  rcases open_ints ht he hc h with ⟨hcs, _⟩ | ⟨a, len, cap, zs, hcs, _, hl, hm, hz, _, hcell, hwz⟩
  · cases hcs
    exact ⟨none, 0, 0, rfl, fun _ => ⟨by omega, fun j hj => absurd hj (Nat.not_lt_zero _)⟩⟩
  · cases hcs
    refine ⟨some a, len, cap, rfl, fun hn => ⟨hn, fun j hj => ?_⟩⟩
    simp only [if_true] at hz
    obtain ⟨b, off, rfl, hcells⟩ := ints_at hcell (by omega)
    have hj' : j < zs.length := by omega
    have hwf : (Lit.int .u8 (zs.getD j 0)).wf = true := hwz _ (by
      rw [List.getD_eq_getElem?_getD, List.getElem?_eq_getElem hj']
      exact List.getElem_mem hj')
    have hb : 0 ≤ zs.getD j 0 ∧ zs.getD j 0 ≤ 255 := by simpa [Lit.wf, IntKind.min, IntKind.max, IntKind.signed, IntKind.bits] using hwf
    exact ⟨b, off, zs.getD j 0, rfl, World.block_lt_of_cell? _ _ (hcells 0 (by omega)), World.block_lt_of_cell? _ _ (hcells 0 (by omega)), hcells j hj', hb.1, hb.2⟩
end
end Go.Proofs.Ytnhpodlcgkgpbaa
