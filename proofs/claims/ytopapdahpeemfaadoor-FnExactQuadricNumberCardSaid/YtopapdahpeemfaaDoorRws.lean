/- Rows of int64 in memory: a slice of slices. Plain facts, no walk. -/
import Derived.Test.YtopapdahpeemfaaDoorTab
import Derived.Deep.Matrix
namespace Go.Proofs.YtopapdahpeemfaaDoor
open Go.RowKit Go.ChangeShapes Go.Sort
set_option linter.unusedVariables false
set_option linter.unusedSimpArgs false

/-- Two slices share no cell. -/
def Dis (u v : Value) : Prop := ∀ a b n m c d, u = .slice (some a) n c → v = .slice (some b) m d → n = 0 ∨ m = 0 ∨ a.block ≠ b.block ∨ a.off + n ≤ b.off ∨ b.off + m ≤ a.off
/-- A slice has no cell in block g. -/
def OffB (g : Nat) (u : Value) : Prop := ∀ a n c, u = .slice (some a) n c → n = 0 ∨ a.block ≠ g
theorem Dis.symm {u v : Value} (h : Dis u v) : Dis v u := fun a b n m c d e1 e2 => by
  have := h b a m n d c e2 e1
  omega

/-- In w the m cells behind (g, off) hold the slices u 0, u 1, ..; number i has the numbers F i 0, F i 1, .., ln i of them; all lie in blocks from lo on below hi; if o, all may be written and no two share a cell. -/
def RwU (o : Bool) (w : World) (lo hi g off cap m : Nat) (u : Nat → Value) (ln : Nat → Nat) (F : Nat → Nat → Int) : Prop :=
  hi ≤ w.heap.size ∧ m ≤ cap ∧ cap ≤ maxLen ∧ lo ≤ g ∧ g < hi ∧
      (∀ i, i < m → w.cell? ⟨g, off + i, none⟩ = some (u i) ∧ Sl o w lo hi (u i) (ln i) (F i)) ∧
      (o = true → (∀ k, w.frozen? ⟨g, k, none⟩ = false) ∧ (∀ i, i < m → OffB g (u i)) ∧ ∀ i j, i < m → j < m → i ≠ j → Dis (u i) (u j))
/-- In w the value V is a slice of m slices of such numbers. -/
def Rw (o : Bool) (w : World) (lo hi : Nat) (V : Value) (m : Nat) (ln : Nat → Nat) (F : Nat → Nat → Int) : Prop :=
  (hi ≤ w.heap.size ∧ m = 0 ∧ ∃ a cap, V = .slice a 0 cap ∧ (a = none → cap = 0)) ∨ ∃ (g off cap : Nat) (u : Nat → Value), V = .slice (some ⟨g, off, none⟩) m cap ∧ RwU o w lo hi g off cap m u ln F

section
variable {o o' : Bool} {w w' : World} {lo hi lo' hi' B : Nat} {v V : Value} {n m k g off cap : Nat} {f f' : Nat → Int} {u : Nat → Value} {ln ln' : Nat → Nat} {F F' : Nat → Nat → Int}
theorem Sl.offB (h : Sl o w lo hi v n f) {g : Nat} (hg : g < lo ∨ hi ≤ g) : OffB g v := fun a n' c e => by
  rcases h.2.2.2 with ⟨rfl, a', cap, hv, _⟩ | ⟨g', off, cap, hv, h1, h2, _⟩
  · rw [hv] at e; cases e; exact .inl rfl
  · rw [hv] at e; cases e; right; show g' ≠ g; omega
theorem Sl.dis {x : Value} (h : Sl o w lo hi v n f) (h' : Sl o' w' lo' hi' x k f') (hd : hi ≤ lo' ∨ hi' ≤ lo) : Dis v x := fun a b n' m' c d e1 e2 => by
  rcases h.2.2.2 with ⟨rfl, a', cap, hv, _⟩ | ⟨g, off, cap, hv, h1, h2, _⟩
  · rw [hv] at e1; cases e1; exact .inl rfl
  · rcases h'.2.2.2 with ⟨rfl, a', cap', hu, _⟩ | ⟨g', off', cap', hu, k1, k2, _⟩
    · rw [hu] at e2; cases e2; exact .inr (.inl rfl)
    · rw [hv] at e1; cases e1; rw [hu] at e2; cases e2
      right; right; left; show g ≠ g'; omega
theorem RwU.size (h : RwU o w lo hi g off cap m u ln F) : hi ≤ w.heap.size := h.1
theorem RwU.len (h : RwU o w lo hi g off cap m u ln F) : m ≤ maxLen := Nat.le_trans h.2.1 h.2.2.1
theorem RwU.blk (h : RwU o w lo hi g off cap m u ln F) : lo ≤ g ∧ g < hi := ⟨h.2.2.2.1, h.2.2.2.2.1⟩
theorem RwU.head (h : RwU o w lo hi g off cap m u ln F) {i : Nat} (hi' : i < m) : w.cell? ⟨g, off + i, none⟩ = some (u i) := (h.2.2.2.2.2.1 i hi').1
theorem RwU.row (h : RwU o w lo hi g off cap m u ln F) {i : Nat} (hi' : i < m) : Sl o w lo hi (u i) (ln i) (F i) := (h.2.2.2.2.2.1 i hi').2
theorem RwU.frozen (h : RwU true w lo hi g off cap m u ln F) (k : Nat) : w.frozen? ⟨g, k, none⟩ = false := (h.2.2.2.2.2.2 rfl).1 k
theorem RwU.rw (h : RwU o w lo hi g off cap m u ln F) : Rw o w lo hi (.slice (some ⟨g, off, none⟩) m cap) m ln F := .inr ⟨g, off, cap, u, rfl, h⟩
theorem Rw.size (h : Rw o w lo hi V m ln F) : hi ≤ w.heap.size := by
  rcases h with ⟨h, _⟩ | ⟨_, _, _, _, _, h⟩
  · exact h
  · exact h.size
theorem Rw.len (h : Rw o w lo hi V m ln F) : m ≤ maxLen := by
  rcases h with ⟨_, rfl, _⟩ | ⟨_, _, _, _, _, h⟩
  · exact Nat.zero_le _
  · exact h.len
theorem Rw.shape (h : Rw o w lo hi V m ln F) : ∃ a cap, V = .slice a m cap := by
  rcases h with ⟨_, rfl, a, cap, rfl, _⟩ | ⟨g, off, cap, u, rfl, _⟩
  · exact ⟨_, _, rfl⟩
  · exact ⟨_, _, rfl⟩
theorem Rw.at (h : Rw o w lo hi V m ln F) (hm : 0 < m) : ∃ (g off cap : Nat) (u : Nat → Value), V = .slice (some ⟨g, off, none⟩) m cap ∧ RwU o w lo hi g off cap m u ln F := by
  rcases h with ⟨_, h4, _⟩ | h4
  · omega
  · exact h4
theorem RwU.keepF (h : RwU o w lo hi g off cap m u ln F) (hf : Frame lo' hi' w w') (hd : hi ≤ lo' ∨ hi' ≤ lo) : RwU o w' lo hi g off cap m u ln F := by
  obtain ⟨h1, hc, hc', hg, hg', hcell, ho⟩ := h
  refine ⟨Nat.le_trans h1 hf.size, hc, hc', hg, hg', fun i hi => ⟨?_, (hcell i hi).2.keepF hf hd⟩, fun e => ⟨fun k => ?_, (ho e).2⟩⟩
  · rw [hf.cell (p := ⟨g, off + i, none⟩) (by show g < _; omega) (by show g < _ ∨ _ ≤ g; omega)]; exact (hcell i hi).1
  · rw [hf.frozen (p := ⟨g, k, none⟩) (by show g < _; omega) (by show g < _ ∨ _ ≤ g; omega)]; exact (ho e).1 k
theorem RwU.keep (h : RwU o w lo hi g off cap m u ln F) (hb : Below B w w') (hB : hi ≤ B) : RwU o w' lo hi g off cap m u ln F := by
  obtain ⟨h1, hc, hc', hg, hg', hcell, ho⟩ := h
  refine ⟨Nat.le_trans h1 hb.size, hc, hc', hg, hg', fun i hi => ⟨?_, (hcell i hi).2.keep hb hB⟩, fun e => ⟨fun k => ?_, (ho e).2⟩⟩
  · rw [hb.cell (p := ⟨g, off + i, none⟩) (by show g < B; omega)]; exact (hcell i hi).1
  · rw [hb.frozen (p := ⟨g, k, none⟩) (by show g < B; omega)]; exact (ho e).1 k
theorem RwU.wide (h : RwU o w lo hi g off cap m u ln F) (hl : lo' ≤ lo) (hh : hi ≤ hi') (hs : hi' ≤ w.heap.size) : RwU o w lo' hi' g off cap m u ln F := by
  obtain ⟨_, hc, hc', hg, hg', hcell, ho⟩ := h
  exact ⟨hs, hc, hc', by omega, by omega, fun i hi => ⟨(hcell i hi).1, (hcell i hi).2.wide hl hh hs⟩, ho⟩
theorem RwU.rd (h : RwU o w lo hi g off cap m u ln F) : RwU false w lo hi g off cap m u ln F := by
  obtain ⟨h1, hc, hc', hg, hg', hcell, ho⟩ := h
  exact ⟨h1, hc, hc', hg, hg', fun i hi => ⟨(hcell i hi).1, (hcell i hi).2.rd⟩, fun e => by cases e⟩
theorem RwU.congr (h : RwU o w lo hi g off cap m u ln F) (hl : ∀ i, i < m → ln' i = ln i) (e : ∀ i j, i < m → j < ln i → F' i j = F i j) : RwU o w lo hi g off cap m u ln' F' := by
  obtain ⟨h1, hc, hc', hg, hg', hcell, ho⟩ := h
  exact ⟨h1, hc, hc', hg, hg', fun i hi => ⟨(hcell i hi).1, by rw [hl i hi]; exact (hcell i hi).2.congr (fun j hj => e i j hi hj)⟩, ho⟩
theorem RwU.alloc (h : RwU o w lo hi g off cap m u ln F) (ob : Obj) : RwU o (w.alloc ob) lo hi g off cap m u ln F := h.keep ((Below.refl _ _).alloc (Nat.le_refl _) _) h.size
theorem RwU.drewN (h : RwU o w lo hi g off cap m u ln F) (k : Nat) : RwU o (w.drewN k) lo hi g off cap m u ln F := h.keep (below_drewN (Below.refl _ _) k) h.size
theorem RwU.drew (h : RwU o w lo hi g off cap m u ln F) : RwU o w.drew lo hi g off cap m u ln F := h.keep ((Below.refl _ _).drew) h.size
/-- A new row's head is laid at place i. -/
theorem RwU.putRow {U : Value} {n' : Nat} (h : RwU true w lo hi g off cap m u ln F) (hU : Sl true w hi hi' U n' f') (hh : hi ≤ hi') {i : Nat} (him : i < m) :
    RwU true (w.setCell ⟨g, off + i, none⟩ U) lo hi' g off cap m (fun y => if y = i then U else u y) (fun y => if y = i then n' else ln y) (fun y => if y = i then f' else F y) := by
  obtain ⟨h1, hc, hc', hg, hg', hcell, ho⟩ := h
  obtain ⟨h5, h6, h7⟩ := ho rfl
  have hfr : Frame g (g + 1) w (w.setCell ⟨g, off + i, none⟩ U) := (Frame.refl g (g + 1) w).setCell (Nat.le_refl _) (Nat.lt_succ_self _) _
  refine ⟨by simpa using hU.size, hc, hc', hg, by omega, fun y hy => ⟨?_, ?_⟩, fun _ => ⟨fun k => (World.frozen?_setCell _ _ _ _).trans (h5 k), fun y hy => ?_, fun y z hy hz hne => ?_⟩⟩
  · dsimp only
    by_cases e : y = i
    · subst e; rw [if_pos rfl]; exact World.cell?_setCell_same _ _ _ (hcell y hy).1
    · rw [if_neg e, setCell_ne _ _ _ _ _ (by omega)]; exact (hcell y hy).1
  · dsimp only
    by_cases e : y = i
    · subst e; simp only [if_pos]
      exact (hU.keepF hfr (by omega)).wide (by omega) (Nat.le_refl _) (by simpa using hU.size)
    · simp only [if_neg e]
      have hs := (hcell y hy).2
      refine Sl.wide (hi := hi) ?_ (Nat.le_refl _) hh (by simpa using hU.size)
      refine ⟨by simpa using h1, hs.2.1, hs.2.2.1, ?_⟩
      rcases hs.2.2.2 with q | ⟨g1, off1, c1, q1, q2, q3, q4, q5, q6, q7⟩
      · exact .inl q
      · refine .inr ⟨g1, off1, c1, q1, q2, q3, q4, q5, fun j hj => ?_, fun e k => (World.frozen?_setCell _ _ _ _).trans (q7 e k)⟩
        have := h6 y hy _ _ _ q1
        have hne : g1 ≠ g := by
          rcases this with z | z
          · omega
          · exact z
        rw [World.cell?_setCell_other _ _ _ _ (fun e => hne (by injection e with e1; exact e1.symm))]
        exact q6 j hj
  · dsimp only
    by_cases e : y = i
    · rw [if_pos e]; exact hU.offB (by omega)
    · rw [if_neg e]; exact h6 y hy
  · dsimp only
    by_cases e : y = i
    · have e2 : ¬ z = i := by omega
      rw [if_pos e, if_neg e2]
      exact (((hcell z hz).2).dis hU (.inl (Nat.le_refl _))).symm
    · rw [if_neg e]
      by_cases e2 : z = i
      · rw [if_pos e2]; exact ((hcell y hy).2).dis hU (.inl (Nat.le_refl _))
      · rw [if_neg e2]; exact h7 y z hy hz hne
theorem Rw.keepF (h : Rw o w lo hi V m ln F) (hf : Frame lo' hi' w w') (hd : hi ≤ lo' ∨ hi' ≤ lo) : Rw o w' lo hi V m ln F := by
  rcases h with ⟨h0, h⟩ | ⟨g, off, cap, u, hv, h⟩
  · exact .inl ⟨Nat.le_trans h0 hf.size, h⟩
  · exact .inr ⟨g, off, cap, u, hv, h.keepF hf hd⟩
theorem Rw.keep (h : Rw o w lo hi V m ln F) (hb : Below B w w') (hB : hi ≤ B) : Rw o w' lo hi V m ln F := by
  rcases h with ⟨h0, h⟩ | ⟨g, off, cap, u, hv, h⟩
  · exact .inl ⟨Nat.le_trans h0 hb.size, h⟩
  · exact .inr ⟨g, off, cap, u, hv, h.keep hb hB⟩
theorem Rw.wide (h : Rw o w lo hi V m ln F) (hl : lo' ≤ lo) (hh : hi ≤ hi') (hs : hi' ≤ w.heap.size) : Rw o w lo' hi' V m ln F := by
  rcases h with ⟨h0, h⟩ | ⟨g, off, cap, u, hv, h⟩
  · exact .inl ⟨hs, h⟩
  · exact .inr ⟨g, off, cap, u, hv, h.wide hl hh hs⟩
theorem Rw.rd (h : Rw o w lo hi V m ln F) : Rw false w lo hi V m ln F := by
  rcases h with h | ⟨g, off, cap, u, hv, h⟩
  · exact .inl h
  · exact .inr ⟨g, off, cap, u, hv, h.rd⟩
theorem Rw.congr (h : Rw o w lo hi V m ln F) (hl : ∀ i, i < m → ln' i = ln i) (e : ∀ i j, i < m → j < ln i → F' i j = F i j) : Rw o w lo hi V m ln' F' := by
  rcases h with h | ⟨g, off, cap, u, hv, h⟩
  · exact .inl h
  · exact .inr ⟨g, off, cap, u, hv, h.congr hl e⟩
theorem Rw.rowLen (h : Rw o w lo hi V m ln F) {i : Nat} (hi' : i < m) : ln i ≤ maxLen := by
  obtain ⟨g, off, cap, u, _, h⟩ := h.at (by omega)
  exact (h.row hi').len
theorem Rw.bd (h : Rw o w lo hi V m ln F) {i j : Nat} (hi' : i < m) (hj : j < ln i) : inR (F i j) := by
  obtain ⟨g, off, cap, u, _, h⟩ := h.at (by omega)
  exact (h.row hi').bd j hj
theorem Rw.alloc (h : Rw o w lo hi V m ln F) (ob : Obj) : Rw o (w.alloc ob) lo hi V m ln F := h.keep ((Below.refl _ _).alloc (Nat.le_refl _) _) h.size
theorem Rw.drewN (h : Rw o w lo hi V m ln F) (k : Nat) : Rw o (w.drewN k) lo hi V m ln F := h.keep (below_drewN (Below.refl _ _) k) h.size
theorem Rw.drew (h : Rw o w lo hi V m ln F) : Rw o w.drew lo hi V m ln F := h.keep ((Below.refl _ _).drew) h.size
theorem Rw.setOther (h : Rw o w lo hi V m ln F) {p : Addr} (hb : p.block < lo ∨ hi ≤ p.block) (x : Value) : Rw o (w.setCell p x) lo hi V m ln F :=
  h.keepF ((Frame.refl p.block (p.block + 1) w).setCell (Nat.le_refl _) (Nat.lt_succ_self _) x) (by omega)
theorem Rw.nil (w : World) (lo hi : Nat) (hh : hi ≤ w.heap.size) (ln : Nat → Nat) (F : Nat → Nat → Int) : Rw o w lo hi (.slice none 0 0) 0 ln F := .inl ⟨hh, rfl, none, 0, rfl, fun _ => rfl⟩
/-- Rows that share a table. -/
theorem Tab.rwU {T R p : Nat} (h : Tab w T R p n F) (hn : 1 ≤ n) (hp2 : p ≤ maxLen) (hl : lo ≤ T) (hl' : lo ≤ R) : RwU true w lo w.heap.size R 0 p p (fun i => .slice (some ⟨T, i * n, none⟩) n n) (fun _ => n) F := by
  have hz := h.size
  have hTR := h.1
  refine ⟨Nat.le_refl _, Nat.le_refl _, hp2, hl', hz.2, fun i hi => ⟨?_, (h.row hn hi).wide hl (by omega) (Nat.le_refl _)⟩, fun _ => ⟨fun k => h.2.2.2.2 k, fun i hi a n' c e => ?_, fun i j hi hj hne a b n' m' c d e1 e2 => ?_⟩⟩
  · rw [Nat.zero_add]; exact h.head hi
  · cases e; right; exact hTR
  · cases e1; cases e2
    right; right; right
    show i * n + n ≤ j * n ∨ j * n + n ≤ i * n
    rcases Nat.lt_or_gt_of_ne hne with q | q
    · left
      have : (i + 1) * n ≤ j * n := Nat.mul_le_mul_right _ q
      rw [Nat.add_mul, Nat.one_mul] at this; exact this
    · right
      have : (j + 1) * n ≤ i * n := Nat.mul_le_mul_right _ q
      rw [Nat.add_mul, Nat.one_mul] at this; exact this
end

/-- What is written lies in the cells of the slice v. -/
structure Only (v : Value) (w w' : World) : Prop where
  os : w'.os = w.os
  tape : w'.tape = w.tape
  output : w'.output = w.output
  size : w'.heap.size = w.heap.size
  cell : ∀ b k, (∀ a n c, v = .slice (some a) n c → ¬ (b = a.block ∧ a.off ≤ k ∧ k < a.off + n)) → w'.cell? ⟨b, k, none⟩ = w.cell? ⟨b, k, none⟩
  frozen : ∀ b k, w'.frozen? ⟨b, k, none⟩ = w.frozen? ⟨b, k, none⟩
theorem Only.refl (v : Value) (w : World) : Only v w w := ⟨rfl, rfl, rfl, rfl, fun _ _ _ => rfl, fun _ _ => rfl⟩
theorem Only.drewN {v : Value} {w w' : World} (h : Only v w w') (k : Nat) : Only v w (w'.drewN k) := ⟨h.os, h.tape, h.output, h.size, h.cell, h.frozen⟩
theorem Only.setCell {w w' : World} {g off n cap i : Nat} {x : Value} (h : Only (.slice (some ⟨g, off, none⟩) n cap) w w') (hi : i < n) : Only (.slice (some ⟨g, off, none⟩) n cap) w (w'.setCell ⟨g, off + i, none⟩ x) :=
  ⟨h.os, h.tape, h.output, by simpa [World.setCell] using h.size, fun b k hk => (World.cell?_setCell_other _ _ _ _ (fun e => by
    cases e
    exact hk _ _ _ rfl ⟨rfl, Nat.le_add_right _ _, by show off + i < off + n; omega⟩)).trans (h.cell b k hk), fun b k => (World.frozen?_setCell _ _ _ _).trans (h.frozen b k)⟩
section
variable {o : Bool} {w w' : World} {lo hi : Nat} {v x : Value} {n g off cap m : Nat} {f : Nat → Int} {u : Nat → Value} {ln ln' : Nat → Nat} {F F' : Nat → Nat → Int}
theorem Sl.keepOnly (h : Sl o w lo hi x n f) (ho : Only v w w') (hd : Dis v x) : Sl o w' lo hi x n f := by
  obtain ⟨h1, h2, h3, h4⟩ := h
  refine ⟨by rw [ho.size]; exact h1, h2, h3, ?_⟩
  rcases h4 with h4 | ⟨g, off, cap, hv, hg, hg', hc, hc', hcell, hf⟩
  · exact .inl h4
  · refine .inr ⟨g, off, cap, hv, hg, hg', hc, hc', fun j hj => ?_, fun e k => by rw [ho.frozen]; exact hf e k⟩
    rw [ho.cell]
    · exact hcell j hj
    · intro a k c e q
      have := hd a _ k n c cap e hv
      simp only at this q
      omega
/-- The numbers of row i have turned. -/
theorem RwU.putOnly (h : RwU true w lo hi g off cap m u ln F) {i : Nat} (hi' : i < m) (ho : Only (u i) w w') (hs : Sl true w' lo hi (u i) (ln i) f) : RwU true w' lo hi g off cap m u ln (fun y => if y = i then f else F y) := by
  obtain ⟨h1, hc, hc', hg, hg', hcell, hoo⟩ := h
  obtain ⟨h5, h6, h7⟩ := hoo rfl
  refine ⟨by rw [ho.size]; exact h1, hc, hc', hg, hg', fun y hy => ⟨?_, ?_⟩, fun _ => ⟨fun k => by rw [ho.frozen]; exact h5 k, h6, h7⟩⟩
  · rw [ho.cell]
    · exact (hcell y hy).1
    · intro a k c e q
      have := h6 i hi' a k c e
      omega
  · dsimp only
    by_cases e : y = i
    · subst e; rw [if_pos rfl]; exact hs
    · rw [if_neg e]; exact (hcell y hy).2.keepOnly ho (h7 i y hi' hy (fun q => e q.symm))
/-- A number of row i is laid. -/
theorem RwU.store (h : RwU true w lo hi g off cap m u ln F) {i j g1 off1 c1 : Nat} {y : Int} (hi' : i < m) (hu : u i = .slice (some ⟨g1, off1, none⟩) (ln i) c1) (hj : j < ln i) (hy : inR y) :
    RwU true (w.setCell ⟨g1, off1 + j, none⟩ (.int .i64 y)) lo hi g off cap m u ln (fun a b => if a = i ∧ b = j then y else F a b) := by
  have hr := h.row hi'
  rw [hu] at hr
  have := h.putOnly (w' := w.setCell ⟨g1, off1 + j, none⟩ (.int .i64 y)) (i := i) (f := fun b => if b = j then y else F i b) hi' (by rw [hu]; exact (Only.refl _ w).setCell hj) (by rw [hu]; exact hr.store hj hy)
  refine this.congr (fun _ _ => rfl) (fun a b _ _ => ?_)
  by_cases e : a = i
  · subst e; simp
  · simp [e]
end

/-- Rows that are put one by one into a list that grows by append. -/
def RwG (w : World) (base top g cap m : Nat) (u : Nat → Value) (ln : Nat → Nat) (F : Nat → Nat → Int) : Prop :=
  top ≤ w.heap.size ∧ base ≤ g ∧ g < top ∧ RowE w base 22 1 g cap m (fun i => [u i]) ∧
  (∀ i, i < m → Sl true w base top (u i) (ln i) (F i) ∧ OffB g (u i)) ∧ ∀ i j, i < m → j < m → i ≠ j → Dis (u i) (u j)
section
variable {w w' : World} {base top g cap m n : Nat} {u : Nat → Value} {U : Value} {f : Nat → Int} {ln ln' : Nat → Nat} {F G : Nat → Nat → Int}
theorem RwG.keepF {lo hi : Nat} (h : RwG w base top g cap m u ln F) (hf : Frame lo hi w w') (hd : hi ≤ base ∨ top ≤ lo) : RwG w' base top g cap m u ln F := by
  obtain ⟨h1, h2, h3, h4, h5, h6⟩ := h
  exact ⟨Nat.le_trans h1 hf.size, h2, h3, h4.keepF hf (by omega), fun i hi => ⟨(h5 i hi).1.keepF hf (by omega), (h5 i hi).2⟩, h6⟩
theorem RwG.keep (h : RwG w base top g cap m u ln F) (hb : Below w.heap.size w w') : RwG w' base top g cap m u ln F :=
  h.keepF (Frame.of_below (lo := top) (hi := 0) hb (Nat.le_refl _)) (.inl (Nat.zero_le _))
theorem RwG.start (w : World) (u : Nat → Value) (ln : Nat → Nat) (F : Nat → Nat → Int) : RwG (w.alloc (.cells #[] 22)) w.heap.size (w.heap.size + 1) w.heap.size 0 0 u ln F :=
  ⟨by simp, Nat.le_refl _, Nat.lt_succ_self _, RowE.made w w.heap.size 22 1 _ (Nat.le_refl _), fun i hi => absurd hi (Nat.not_lt_zero _), fun i j hi => absurd hi (Nat.not_lt_zero _)⟩
theorem RwG.congr (h : RwG w base top g cap m u ln F) (hl : ∀ i, i < m → ln' i = ln i) (e : ∀ i j, i < m → j < ln i → G i j = F i j) : RwG w base top g cap m u ln' G := by
  obtain ⟨h1, h2, h3, h4, h5, h6⟩ := h
  exact ⟨h1, h2, h3, h4, fun i hi => ⟨by rw [hl i hi]; exact (h5 i hi).1.congr (fun j hj => e i j hi hj), (h5 i hi).2⟩, h6⟩
/-- A new row, made ahead, is put at the end. -/
theorem RwG.push {lo hi g' cap' : Nat} {ob : Obj} (h : RwG w base top g cap m u ln F) (hs : Sl true w lo hi U n f) (hlo : top ≤ lo)
    (hr : RowE w' base 22 1 g' cap' (m + 1) (fun i => if i < m then [u i] else [U])) (hg : (w.alloc ob).grownBy w' (some g)) (ho : g' = g ∨ g' = (w.alloc ob).heap.size) (hl : g' < w'.heap.size) :
    RwG w' base w'.heap.size g' cap' (m + 1) (fun i => if i < m then u i else U) (fun i => if i < m then ln i else n) (fun i => if i < m then F i else f) := by
  obtain ⟨h1, h2, h3, h4, h5, h6⟩ := h
  have hz := hg.size
  have hsz := hs.size
  simp only [World.size_alloc] at hz ho
  have hF := Frame.ofGrown hg
  refine ⟨Nat.le_refl _, by omega, hl, ?_, fun i hi => ?_, fun i j hi hj hne => ?_⟩
  · exact hr.congr (fun j hj => by
      by_cases e : j < m
      · simp only [if_pos e]
      · simp only [if_neg e])
  · by_cases e : i < m
    · obtain ⟨q1, q2⟩ := h5 i e
      simp only [if_pos e]
      refine ⟨?_, fun a k c ea => ?_⟩
      · -- the row lies apart from the list's old block
        obtain ⟨a1, a2, a3, a4⟩ := q1.alloc ob
        refine Sl.wide (lo := base) (hi := top) ⟨by omega, a2, a3, ?_⟩ (Nat.le_refl _) (by omega) (Nat.le_refl _)
        rcases a4 with a4 | ⟨b1, off, c1, b2, b3, b4, b5, b6, b7, b8⟩
        · exact .inl a4
        · have hne : 0 < ln i → b1 ≠ g := fun hp => by
            rcases q2 _ _ _ b2 with z | z
            · omega
            · exact z
          by_cases e0 : ln i = 0
          · exact .inl ⟨e0, some ⟨b1, off, none⟩, c1, by rw [b2, e0], fun h => by cases h⟩
          · refine .inr ⟨b1, off, c1, b2, b3, b4, b5, b6, fun j hj => ?_, fun e k => ?_⟩
            · have hn := hne (by omega)
              rw [hF.cell (p := ⟨b1, off + j, none⟩) (by show b1 < _; simp; omega) (by show b1 < g ∨ g + 1 ≤ b1; omega)]; exact b7 j hj
            · have hn := hne (by omega)
              rw [hF.frozen (p := ⟨b1, k, none⟩) (by show b1 < _; simp; omega) (by show b1 < g ∨ g + 1 ≤ b1; omega)]; exact b8 e k
      · rcases ho with rfl | rfl
        · exact q2 a k c ea
        · rcases q1.2.2.2 with ⟨z, a', c', hv, _⟩ | ⟨b1, off, c1, hv, b3, b4, _⟩
          · rw [hv] at ea; cases ea; exact .inl rfl
          · rw [hv] at ea; cases ea; right; show b1 ≠ w.heap.size + 1; omega
    · simp only [if_neg e]
      refine ⟨((hs.alloc ob).keepF hF (by omega)).wide (by omega) (by omega) (Nat.le_refl _), hs.offB (by omega)⟩
  · by_cases e : i < m
    · simp only [if_pos e]
      by_cases e2 : j < m
      · simp only [if_pos e2]; exact h6 i j e e2 hne
      · simp only [if_neg e2]; exact (h5 i e).1.dis hs (.inl hlo)
    · simp only [if_neg e]
      have e2 : j < m := by omega
      simp only [if_pos e2]
      exact ((h5 j e2).1.dis hs (.inl hlo)).symm
theorem RwG.head (h : RwG w base top g cap m u ln F) {i : Nat} (hi : i < m) : w.cell? ⟨g, i, none⟩ = some (u i) := by
  have := h.2.2.2.1.cell (fun _ => rfl) hi (j := 0) (by omega)
  simpa using this
/-- The list, done. -/
theorem RwG.rwU (h : RwG w base top g cap m u ln F) (hcap : m ≤ cap) (hcap' : cap ≤ maxLen) : RwU true w base top g 0 cap m u ln F := by
  have hh := fun i (hi : i < m) => h.head hi
  obtain ⟨h1, h2, h3, h4, h5, h6⟩ := h
  exact ⟨h1, hcap, hcap', h2, h3, fun i hi => ⟨by rw [Nat.zero_add]; exact hh i hi, (h5 i hi).1⟩, fun _ => ⟨fun k => h4.frozen k, fun i hi => (h5 i hi).2, h6⟩⟩
theorem RwG.caps (h : RwG w base top g cap m u ln F) : m ≤ cap ∧ cap ≤ maxLen := by
  rcases h.2.2.2.1.2 with ⟨h2, _⟩ | ⟨g', cap', cur, hv, hb, hh, hn, hc, hs, ht⟩
  · cases h2
  · cases hv; exact ⟨hn, hc⟩
end

/-- What the numbers of the rows ahead of row i are together. -/
def pre (ln : Nat → Nat) : Nat → Nat
  | 0 => 0
  | i + 1 => pre ln i + ln i
theorem pre_le (ln : Nat → Nat) {i : Nat} : ∀ {m}, i ≤ m → pre ln i ≤ pre ln m
  | 0, h => by obtain rfl : i = 0 := by omega
               exact Nat.le_refl _
  | m + 1, h => by
    by_cases e : i ≤ m
    · have := pre_le ln e; simp only [pre]; omega
    · obtain rfl : i = m + 1 := by omega
      exact Nat.le_refl _
theorem pre_one (ln : Nat → Nat) {i m : Nat} (h : i < m) : pre ln i + ln i ≤ pre ln m := pre_le ln (i := i + 1) h
theorem pre_congr {ln ln' : Nat → Nat} : ∀ {m}, (∀ i, i < m → ln i = ln' i) → pre ln m = pre ln' m
  | 0, _ => rfl
  | m + 1, h => by simp only [pre]; rw [pre_congr (m := m) (fun i hi => h i (by omega)), h m (by omega)]

theorem pre_const (n : Nat) : ∀ m, pre (fun _ => n) m = m * n
  | 0 => by simp [pre]
  | m + 1 => by simp only [pre]; rw [pre_const n m, Nat.add_mul, Nat.one_mul]

open Go.WideShapes Go.ChangeAt Go.Deep in
/-- Rows that came in, read off the row's own words. -/
theorem Rw.came {H : Type} {enc : TypeId × Value → H} {P : Program} {W : World} {t e q : TypeId} {fuel : Nat} {c : Value} {y : DataW H × List MemPlace}
    (ht : P.underlying t = some (.slice e)) (he : P.underlying e = some (.slice q)) (hq : P.underlying q = some (.int .i64)) (ce : P.cellsOf e = 1) (cq : P.cellsOf q = 1)
    (h : DataW.trod enc P W 0 (fun _ => true) true fuel t [c] = some y) : ∃ m ln F, Rw false W 0 W.heap.size c m ln F := by
  rcases open_slice1 ht ce h with ⟨hcs, _⟩ | ⟨a, len, cap, k, n, V, D, Pl, hcs, hb, hl, hm, hmm, _, hx⟩
  · cases hcs
    exact ⟨0, fun _ => 0, fun _ _ => 0, Rw.nil W 0 _ (Nat.le_refl _) _ _⟩
  · cases hcs
    rcases Nat.eq_zero_or_pos len with h0 | h0
    · subst h0
      exact ⟨0, fun _ => 0, fun _ _ => 0, .inl ⟨Nat.le_refl _, rfl, _, _, rfl, fun h => by cases h⟩⟩
    · simp only [if_true] at hmm
      subst hmm
      obtain ⟨b, off, spot⟩ := a
      have hspot : spot = none := by simpa [Addr.add] using World.cell?_spot (hx 0 (by omega)).1
      subst hspot
      have hr : ∀ i, i < k → ∃ z : Nat × (Nat → Int), Sl false W 0 W.heap.size (V i) z.1 z.2 := fun i hi => by
        obtain ⟨n', f', hs⟩ := Sl.came he hq cq (hx i hi).2
        exact ⟨(n', f'), hs⟩
      haveI : Inhabited (Nat × (Nat → Int)) := ⟨(0, fun _ => 0)⟩
      obtain ⟨z, hz⟩ := choose_lt hr
      refine ⟨len, fun i => (z i).1, fun i => (z i).2, .inr ⟨b, off, k, V, rfl, Nat.le_refl _, hl, hm, Nat.zero_le _, ?_, fun i hi => ⟨?_, hz i (by omega)⟩, fun e => by cases e⟩⟩
      · have := World.block_lt_of_cell? _ _ (hx 0 (by omega)).1
        simpa [Addr.add] using this
      · have := (hx i (by omega)).1
        rwa [Go.WideShapes.add_plain] at this
end Go.Proofs.YtopapdahpeemfaaDoor
