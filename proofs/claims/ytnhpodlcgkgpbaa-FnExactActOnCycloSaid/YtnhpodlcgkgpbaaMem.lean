/- Slices of int64 in memory: read (Sl false), owned (Sl true); what a call leaves alone (Frame). Plain facts, no walk. -/
import Derived.Test.YtnhpodlcgkgpbaaGcd
import Derived.OpenShut
namespace Go.Proofs.Ytnhpodlcgkgpbaa
open Go.RowKit Go.ChangeShapes

/-- An int64. -/
def inR (x : Int) : Prop := -9223372036854775808 ≤ x ∧ x ≤ 9223372036854775807

theorem inR_wrap (x : Int) : inR (wrap64 x) := by unfold wrap64 inR; omega
theorem wrap_inR {x : Int} (h : inR x) : wrap64 x = x := by unfold inR at h; unfold wrap64; omega

/-- In w the value v is a slice of n int64s, f 0, f 1, .., that lie in a block from lo on below hi; if o, the block may be written. -/
def Sl (o : Bool) (w : World) (lo hi : Nat) (v : Value) (n : Nat) (f : Nat → Int) : Prop :=
  hi ≤ w.heap.size ∧ n ≤ maxLen ∧ (∀ j, j < n → inR (f j)) ∧ ((n = 0 ∧ ∃ a cap, v = .slice a 0 cap ∧ (a = none → cap = 0)) ∨
    ∃ g off cap, v = .slice (some ⟨g, off, none⟩) n cap ∧ lo ≤ g ∧ g < hi ∧ n ≤ cap ∧ cap ≤ maxLen ∧ (∀ j, j < n → w.cell? ⟨g, off + j, none⟩ = some (.int .i64 (f j))) ∧ (o = true → ∀ k, w.frozen? ⟨g, k, none⟩ = false))

/-- Between w and w' nothing turns outside the blocks from lo on below hi. -/
structure Frame (lo hi : Nat) (w w' : World) : Prop where
  os : w'.os = w.os
  tape : w'.tape = w.tape
  output : w'.output = w.output
  size : w.heap.size ≤ w'.heap.size
  block : ∀ k, k < w.heap.size → (k < lo ∨ hi ≤ k) → w'.heap[k]? = w.heap[k]?

theorem Frame.refl (lo hi : Nat) (w : World) : Frame lo hi w w := ⟨rfl, rfl, rfl, Nat.le_refl _, fun _ _ _ => rfl⟩
theorem Frame.trans {lo hi : Nat} {a b c : World} (h : Frame lo hi a b) (k : Frame lo hi b c) : Frame lo hi a c :=
  ⟨k.os.trans h.os, k.tape.trans h.tape, k.output.trans h.output, Nat.le_trans h.size k.size, fun i hi' hq => (k.block i (Nat.lt_of_lt_of_le hi' h.size) hq).trans (h.block i hi' hq)⟩
theorem Frame.of_below {w w' : World} {lo hi B : Nat} (h : Below B w w') (hB : w.heap.size ≤ B) : Frame lo hi w w' :=
  ⟨h.os, h.tape, h.output, h.size, fun k hk _ => h.block k (Nat.lt_of_lt_of_le hk hB)⟩
theorem Frame.below {w w' : World} {lo hi B : Nat} (h : Frame lo hi w w') (hB : B ≤ lo) (hs : B ≤ w.heap.size) : Below B w w' :=
  ⟨h.os, h.tape, h.output, h.size, fun k hk => h.block k (Nat.lt_of_lt_of_le hk hs) (.inl (Nat.lt_of_lt_of_le hk hB))⟩
theorem Frame.setCell {lo hi : Nat} {a w : World} (h : Frame lo hi a w) {p : Addr} (hp : lo ≤ p.block) (hq : p.block < hi) (u : Value) : Frame lo hi a (w.setCell p u) :=
  h.trans ⟨rfl, rfl, rfl, by simp [World.setCell], fun k _ hq' => Below.heap_setCell _ _ _ _ (by omega)⟩
/-- A store into a block that was not there at the start. -/
theorem Frame.setNew {lo hi : Nat} {a w : World} (h : Frame lo hi a w) {p : Addr} (hp : a.heap.size ≤ p.block) (u : Value) : Frame lo hi a (w.setCell p u) :=
  ⟨h.os, h.tape, h.output, by simpa [World.setCell] using h.size, fun k hk hq => (Below.heap_setCell _ _ _ _ (by omega)).trans (h.block k hk hq)⟩
theorem Frame.drew {lo hi : Nat} {a w : World} (h : Frame lo hi a w) : Frame lo hi a w.drew := ⟨h.os, h.tape, h.output, h.size, h.block⟩
theorem Frame.drewN {lo hi : Nat} {a w : World} (h : Frame lo hi a w) (n : Nat) : Frame lo hi a (w.drewN n) := ⟨h.os, h.tape, h.output, h.size, h.block⟩
theorem Frame.wide {lo hi lo' hi' : Nat} {w w' : World} (h : Frame lo hi w w') (hl : lo' ≤ lo) (hh : hi ≤ hi') : Frame lo' hi' w w' :=
  ⟨h.os, h.tape, h.output, h.size, fun k hk _ => h.block k hk (by omega)⟩
theorem Frame.alloc {lo hi : Nat} {a w : World} (h : Frame lo hi a w) (o : Obj) : Frame lo hi a (w.alloc o) :=
  h.trans ⟨rfl, rfl, rfl, by simp, fun k hk _ => Below.heap_alloc _ _ _ hk⟩
theorem Frame.cell {lo hi : Nat} {w w' : World} (h : Frame lo hi w w') {p : Addr} (hp : p.block < w.heap.size) (hq : p.block < lo ∨ hi ≤ p.block) : w'.cell? p = w.cell? p := World.cell?_of_block (w := w) (h.block p.block hp hq)
theorem Frame.frozen {lo hi : Nat} {w w' : World} (h : Frame lo hi w w') {p : Addr} (hp : p.block < w.heap.size) (hq : p.block < lo ∨ hi ≤ p.block) : w'.frozen? p = w.frozen? p := World.frozen?_of_block (w := w) (h.block p.block hp hq)

section
variable {o : Bool} {w w' : World} {lo hi lo' hi' B : Nat} {v : Value} {n : Nat} {f f' : Nat → Int}
theorem Sl.keep (h : Sl o w lo hi v n f) (hb : Below B w w') (hB : hi ≤ B) : Sl o w' lo hi v n f := by
  obtain ⟨h1, h2, h3, h4⟩ := h
  refine ⟨Nat.le_trans h1 hb.size, h2, h3, ?_⟩
  rcases h4 with h4 | ⟨g, off, cap, hv, hg, hg', hc, hc', hcell, hf⟩
  · exact .inl h4
  · exact .inr ⟨g, off, cap, hv, hg, hg', hc, hc', fun j hj => by rw [hb.cell (p := ⟨g, off + j, none⟩) (by show g < B; omega)]; exact hcell j hj,
      fun ho k => by rw [hb.frozen (p := ⟨g, k, none⟩) (by show g < B; omega)]; exact hf ho k⟩
theorem Sl.keepF (h : Sl o w lo hi v n f) (hb : Frame lo' hi' w w') (hB : hi ≤ lo' ∨ hi' ≤ lo) : Sl o w' lo hi v n f := by
  obtain ⟨h1, h2, h3, h4⟩ := h
  refine ⟨Nat.le_trans h1 hb.size, h2, h3, ?_⟩
  rcases h4 with h4 | ⟨g, off, cap, hv, hg, hg', hc, hc', hcell, hf⟩
  · exact .inl h4
  · exact .inr ⟨g, off, cap, hv, hg, hg', hc, hc', fun j hj => by rw [hb.cell (p := ⟨g, off + j, none⟩) (by show g < _; omega) (by show g < _ ∨ _ ≤ g; omega)]; exact hcell j hj,
      fun ho k => by rw [hb.frozen (p := ⟨g, k, none⟩) (by show g < _; omega) (by show g < _ ∨ _ ≤ g; omega)]; exact hf ho k⟩
theorem Sl.wide (h : Sl o w lo hi v n f) (hl : lo' ≤ lo) (hh : hi ≤ hi') (hs : hi' ≤ w.heap.size) : Sl o w lo' hi' v n f := by
  obtain ⟨_, h2, h3, h4⟩ := h
  refine ⟨hs, h2, h3, ?_⟩
  rcases h4 with h4 | ⟨g, off, cap, hv, hg, hg', r⟩
  · exact .inl h4
  · exact .inr ⟨g, off, cap, hv, by omega, by omega, r⟩
theorem Sl.rd (h : Sl o w lo hi v n f) : Sl false w lo hi v n f := by
  obtain ⟨h1, h2, h3, h4⟩ := h
  refine ⟨h1, h2, h3, ?_⟩
  rcases h4 with h4 | ⟨g, off, cap, hv, hg, hg', hc, hc', hcell, _⟩
  · exact .inl h4
  · exact .inr ⟨g, off, cap, hv, hg, hg', hc, hc', hcell, fun h => by cases h⟩
theorem Sl.congr (h : Sl o w lo hi v n f) (e : ∀ j, j < n → f' j = f j) : Sl o w lo hi v n f' := by
  obtain ⟨h1, h2, h3, h4⟩ := h
  refine ⟨h1, h2, fun j hj => by rw [e j hj]; exact h3 j hj, ?_⟩
  rcases h4 with h4 | ⟨g, off, cap, hv, hg, hg', hc, hc', hcell, hf⟩
  · exact .inl h4
  · exact .inr ⟨g, off, cap, hv, hg, hg', hc, hc', fun j hj => by rw [e j hj]; exact hcell j hj, hf⟩
theorem Sl.size (h : Sl o w lo hi v n f) : hi ≤ w.heap.size := h.1
theorem Sl.len (h : Sl o w lo hi v n f) : n ≤ maxLen := h.2.1
theorem Sl.bd (h : Sl o w lo hi v n f) : ∀ j, j < n → inR (f j) := h.2.2.1
theorem Sl.nil (w : World) (lo hi : Nat) (hh : hi ≤ w.heap.size) (f : Nat → Int) : Sl o w lo hi (.slice none 0 0) 0 f := ⟨hh, Nat.zero_le _, fun _ hj => absurd hj (Nat.not_lt_zero _), .inl ⟨rfl, none, 0, rfl, fun _ => rfl⟩⟩
/-- A slice that is not empty lies somewhere. -/
theorem Sl.at (h : Sl o w lo hi v n f) (hn : 0 < n) : ∃ g off cap, v = .slice (some ⟨g, off, none⟩) n cap ∧ lo ≤ g ∧ g < hi ∧ n ≤ cap ∧ cap ≤ maxLen ∧ (∀ j, j < n → w.cell? ⟨g, off + j, none⟩ = some (.int .i64 (f j))) ∧ (o = true → ∀ k, w.frozen? ⟨g, k, none⟩ = false) := by
  rcases h.2.2.2 with ⟨h4, _⟩ | h4
  · omega
  · exact h4
theorem Sl.shape (h : Sl o w lo hi v n f) : ∃ a cap, v = .slice a n cap := by
  rcases h.2.2.2 with ⟨rfl, a, cap, rfl, _⟩ | ⟨g, off, cap, rfl, _⟩
  · exact ⟨_, _, rfl⟩
  · exact ⟨_, _, rfl⟩
end

section
variable {o : Bool} {w w' : World} {lo hi lo' hi' B : Nat} {v : Value} {n : Nat} {f f' : Nat → Int}
theorem Sl.setOther (h : Sl o w lo hi v n f) {p : Addr} (hb : p.block < lo ∨ hi ≤ p.block) (u : Value) : Sl o (w.setCell p u) lo hi v n f :=
  h.keepF ((Frame.refl p.block (p.block + 1) w).setCell (Nat.le_refl _) (Nat.lt_succ_self _) u) (by omega)
theorem Sl.alloc (h : Sl o w lo hi v n f) (ob : Obj) : Sl o (w.alloc ob) lo hi v n f := h.keep ((Below.refl _ _).alloc (Nat.le_refl _) _) h.size
theorem Sl.drewN (h : Sl o w lo hi v n f) (k : Nat) : Sl o (w.drewN k) lo hi v n f := h.keep (below_drewN (Below.refl _ _) k) h.size
theorem Sl.drew (h : Sl o w lo hi v n f) : Sl o w.drew lo hi v n f := h.keep ((Below.refl _ _).drew) h.size
end
/-- All old cells and marks read as before: for the walk. -/
theorem bcell {B : Nat} {W w1 : World} (hb : Below B W w1) : (∀ b o, b < B → w1.cell? ⟨b, o, none⟩ = W.cell? ⟨b, o, none⟩) ∧ (∀ b o, b < B → w1.frozen? ⟨b, o, none⟩ = W.frozen? ⟨b, o, none⟩) :=
  ⟨fun b o h => hb.cell (p := ⟨b, o, none⟩) h, fun b o h => hb.frozen (p := ⟨b, o, none⟩) h⟩

theorem setCell_ne (w : World) (g i j : Nat) (v : Value) (h : j ≠ i) : (w.setCell ⟨g, i, none⟩ v).cell? ⟨g, j, none⟩ = w.cell? ⟨g, j, none⟩ :=
  World.cell?_setCell_other _ _ _ _ (fun e => h (by injection e with _ e2 _; exact e2.symm))

/-- A store into an owned slice. -/
theorem Sl.store {w : World} {lo hi g off n cap i : Nat} {f : Nat → Int} {x : Int} (h : Sl true w lo hi (.slice (some ⟨g, off, none⟩) n cap) n f) (hi' : i < n) (hx : inR x) :
    Sl true (w.setCell ⟨g, off + i, none⟩ (.int .i64 x)) lo hi (.slice (some ⟨g, off, none⟩) n cap) n (fun j => if j = i then x else f j) := by
  obtain ⟨h1, h2, h3, h4⟩ := h
  refine ⟨by simpa [World.setCell] using h1, h2, fun j hj => by dsimp only; split; exact hx; exact h3 j hj, ?_⟩
  rcases h4 with ⟨h4, _⟩ | ⟨g', off', cap', hv, hg, hg', hc, hc', hcell, hf⟩
  · omega
  · cases hv
    refine .inr ⟨g, off, cap, rfl, hg, hg', hc, hc', fun j hj => ?_, fun ho k => (World.frozen?_setCell _ _ _ _).trans (hf ho k)⟩
    dsimp only
    by_cases e : j = i
    · subst e
      rw [if_pos rfl]
      exact World.cell?_setCell_same _ _ _ (hcell j hj)
    · rw [if_neg e, setCell_ne _ _ _ _ _ (by omega)]
      exact hcell j hj

/-- A new block of ints. -/
theorem Sl.made (w : World) (cur : Array Value) (t : TypeId) (n cap : Nat) (f : Nat → Int) (hn : n ≤ cap) (hc : cap ≤ maxLen) (hr : ∀ j, j < n → inR (f j)) (hcur : ∀ j, j < n → cur[j]? = some (.int .i64 (f j))) :
    Sl true (w.alloc (.cells cur t)) w.heap.size (w.heap.size + 1) (.slice (some ⟨w.heap.size, 0, none⟩) n cap) n f := by
  have hh : (w.alloc (.cells cur t)).heap[w.heap.size]? = some (.cells cur t) := heap_alloc_new w _
  refine ⟨by simp, by omega, hr, .inr ⟨w.heap.size, 0, cap, rfl, Nat.le_refl _, by omega, hn, hc, fun j hj => ?_, fun _ k => ?_⟩⟩
  · rw [cell_of_row _ _ _ _ _ _ hh, Nat.zero_add]; exact hcur j hj
  · unfold World.frozen?; rw [hh]; simp

/-- An owned row of the kit's. -/
theorem Sl.ofRow {w : World} {base : Nat} {v : Value} {xs : List Int} (h : w.ownsRow base 2 1 v xs.length (xs.map (Value.int .i64))) (hr : ∀ x ∈ xs, inR x) (hm : xs.length ≤ maxLen) :
    Sl true w base w.heap.size v xs.length (fun j => xs.getD j 0) := by
  obtain ⟨_, h2⟩ := h
  have hr' : ∀ j, j < xs.length → inR (xs.getD j 0) := fun j hj => by
    rw [List.getD_eq_getElem?_getD, List.getElem?_eq_getElem hj]
    exact hr _ (List.getElem_mem hj)
  refine ⟨Nat.le_refl _, hm, hr', ?_⟩
  rcases h2 with ⟨hv, hn⟩ | ⟨g, cap, cur, hv, hg, hh, hn, hc, hs, ht⟩
  · exact .inl ⟨hn, none, 0, hv, fun _ => rfl⟩
  · refine .inr ⟨g, 0, cap, hv, hg, (Array.getElem?_eq_some_iff.1 hh).1, hn, hc, fun j hj => ?_, fun _ k => ?_⟩
    · rw [cell_of_row _ _ _ _ _ _ hh, Nat.zero_add]
      have e : (xs.map (Value.int .i64))[j]? = some (.int .i64 (xs.getD j 0)) := by
        rw [List.getElem?_map, List.getD_eq_getElem?_getD, List.getElem?_eq_getElem hj]; rfl
      rw [← ht, List.getElem?_take, if_pos (by omega)] at e
      simpa using e
    · unfold World.frozen?; rw [hh]; simp

/-- A slice, apart: nil; or an address, and its cells. -/
theorem Sl.parts {o : Bool} {w : World} {lo hi n : Nat} {v : Value} {f : Nat → Int} (h : Sl o w lo hi v n f) :
    (v = .slice none 0 0 ∧ n = 0) ∨ ∃ ad cap, v = .slice (some ad) n cap ∧ ∀ j u, ((List.range n).map (fun j => Value.int .i64 (f j)))[j]? = some u → w.cell? (ad.add j) = some u := by
  rcases h.2.2.2 with ⟨rfl, a, cap, rfl, hc⟩ | ⟨g, off, cap, rfl, _, _, _, _, hcell, _⟩
  · cases a with
    | none => exact .inl ⟨by rw [hc rfl], rfl⟩
    | some ad => exact .inr ⟨ad, cap, rfl, fun j u hu => by simp at hu⟩
  · refine .inr ⟨_, cap, rfl, fun j u hu => ?_⟩
    rw [List.getElem?_map] at hu
    rcases Nat.lt_or_ge j n with hj | hj
    · rw [List.getElem?_range hj] at hu
      cases hu
      rw [Go.WideShapes.add_plain]
      exact hcell j hj
    · rw [List.getElem?_eq_none (by simpa using hj)] at hu
      cases hu

/-- An owned row of the kit's, its numbers a function's. -/
theorem Sl.ofRowF {w : World} {base n : Nat} {v : Value} {f : Nat → Int} (h : w.ownsRow base 2 1 v n ((List.range n).map (fun j => Value.int .i64 (f j)))) (hr : ∀ j, j < n → inR (f j)) (hm : n ≤ maxLen) :
    Sl true w base w.heap.size v n f := by
  have e : (List.range n).map (fun j => Value.int .i64 (f j)) = ((List.range n).map f).map (Value.int .i64) := by rw [List.map_map]; rfl
  have hl : ((List.range n).map f).length = n := by simp
  have := Sl.ofRow (xs := (List.range n).map f) (v := v) (w := w) (base := base) (by rw [hl, ← e]; exact h) (fun x hx => by
    obtain ⟨j, hj, rfl⟩ := List.mem_map.1 hx
    exact hr j (List.mem_range.1 hj)) (by rw [hl]; exact hm)
  rw [hl] at this
  exact this.congr (fun j hj => by simp [List.getD_eq_getElem?_getD, hj])

/-- An int64 that came in. -/
theorem inR_wf {x : Int} (h : (Lit.int .i64 x).wf = true) : inR x := by
  have := bounds_i64 h
  unfold inR
  omega

open Go.WideShapes Go.ChangeAt in
/-- A slice of int64 that came in, read off the row's own words. -/
theorem Sl.came {H : Type} {enc : TypeId × Value → H} {P : Program} {W : World} {t e : TypeId} {fuel : Nat} {c : Value} {y : DataW H × List MemPlace}
    (ht : P.underlying t = some (.slice e)) (he : P.underlying e = some (.int .i64)) (hc : P.cellsOf e = 1)
    (h : DataW.trod enc P W 0 (fun _ => true) true fuel t [c] = some y) : ∃ n f, Sl false W 0 W.heap.size c n f := by
  rcases open_ints ht he hc h with ⟨hcs, _⟩ | ⟨a, len, cap, zs, hcs, _, hl, hm, hz, _, hcell, hwz⟩
  · cases hcs
    exact ⟨0, fun _ => 0, Sl.nil W 0 _ (Nat.le_refl _) _⟩
  · cases hcs
    rcases Nat.eq_zero_or_pos len with h0 | h0
    · subst h0
      exact ⟨0, fun _ => 0, Nat.le_refl _, Nat.zero_le _, fun _ hj => absurd hj (Nat.not_lt_zero _), .inl ⟨rfl, _, _, rfl, fun h => by cases h⟩⟩
    · simp only [if_true] at hz
      obtain ⟨b, off, rfl, hcells⟩ := ints_at hcell (by omega)
      refine ⟨len, fun j => zs.getD j 0, Nat.le_refl _, by omega, fun j hj => ?_, .inr ⟨b, off, cap, rfl, Nat.zero_le _, ?_, hl, hm, fun j hj => hcells j (by omega), fun h => by cases h⟩⟩
      · have hj' : j < zs.length := by omega
        refine inR_wf (hwz _ ?_)
        show zs.getD j 0 ∈ zs
        rw [List.getD_eq_getElem?_getD, List.getElem?_eq_getElem hj']
        exact List.getElem_mem hj'
      · exact World.block_lt_of_cell? _ _ (hcells 0 (by omega))
end Go.Proofs.Ytnhpodlcgkgpbaa
