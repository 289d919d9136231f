/- clear and copy over slices of int64, in terms of cells. Plain facts, no walk. -/
import Derived.Test.YtnhpodlcgkgpbaaCopy
import Derived.Laws.IdiomCopy
namespace Go.Proofs.Ytnhpodlcgkgpbaa
open Go.RowKit Go.ChangeShapes Go.Sort

/-- m numbers as cells. -/
def ints (m : Nat) (h : Nat → Int) : List Value := (List.range m).map (fun j => Value.int .i64 (h j))
theorem ints_length (m : Nat) (h : Nat → Int) : (ints m h).length = m := by simp [ints]
theorem ints_get (m : Nat) (h : Nat → Int) (j : Nat) (hj : j < m) : (ints m h)[j]'(by rw [ints_length]; exact hj) = .int .i64 (h j) := by simp [ints]
theorem ints_one (m : Nat) (h : Nat → Int) : ∀ v ∈ ints m h, v.oneCell' = true := fun v hv => by
  obtain ⟨j, _, rfl⟩ := List.mem_map.1 hv; rfl

theorem Frame.setCells {lo hi g : Nat} (hl : lo ≤ g) (hh : g < hi) : ∀ (vs : List Value) (off : Nat) (a w : World), Frame lo hi a w → Frame lo hi a (w.setCells g off vs)
  | [], _, _, _, h => h
  | v :: r, off, a, _, h => Frame.setCells hl hh r (off + 1) a _ (h.setCell (p := ⟨g, off, none⟩) hl hh v)
theorem size_setCells (g : Nat) : ∀ (vs : List Value) (off : Nat) (w : World), (w.setCells g off vs).heap.size = w.heap.size
  | [], _, _ => rfl
  | v :: r, off, _ => by rw [World.setCells, size_setCells g r]; simp

section
variable {w : World} {lo hi g off n cap : Nat} {f : Nat → Int}
theorem Sl.setInts (h : Sl true w lo hi (.slice (some ⟨g, off, none⟩) n cap) n f) (k m : Nat) (hk : k + m ≤ n) (q : Nat → Int) (hq : ∀ j, j < m → inR (q j)) :
    Sl true (w.setCells g (off + k) (ints m q)) lo hi (.slice (some ⟨g, off, none⟩) n cap) n (fun j => if k ≤ j ∧ j < k + m then q (j - k) else f j) := by
  rcases Nat.eq_zero_or_pos n with h0 | h0
  · subst h0
    obtain rfl : m = 0 := by omega
    exact h.congr (fun j hj => by omega)
  · obtain ⟨k1, k2, k3, k4, k5⟩ := h.known h0
    obtain ⟨h1, h2, h3, h4⟩ := h
    refine ⟨by rw [size_setCells]; exact h1, h2, fun j hj => ?_, .inr ⟨g, off, cap, rfl, k1, k2, k3, ?_, fun j hj => ?_, fun ho x => (World.frozen?_setCells _ _ _ _ _).trans (k5 ho x)⟩⟩
    · dsimp only
      split
      · exact hq _ (by omega)
      · exact h3 j hj
    · rcases h4 with ⟨h4, _⟩ | ⟨g', off', cap', hv, _, _, _, hc', _⟩
      · omega
      · cases hv; exact hc'
    · dsimp only
      by_cases e : k ≤ j ∧ j < k + m
      · rw [if_pos e]
        have := World.cell?_setCells_in g (ints m q) (off + k) w (fun i hi => by
          rw [ints_length] at hi
          rw [show off + k + i = off + (k + i) by omega, k4 _ (by omega)]; rfl) (j - k) (by rw [ints_length]; omega)
        rw [show off + k + (j - k) = off + j by omega, ints_get m q (j - k) (by omega)] at this
        exact this
      · rw [if_neg e, World.cell?_setCells_out _ _ _ _ _ (fun _ _ => by rw [ints_length]; show off + j < _ ∨ _ ≤ off + j; omega)]
        exact k4 j hj

/-- 'clear(s[k:])', written out. -/
theorem run_clear_ints {P : Program} (h : Sl true w lo hi (.slice (some ⟨g, off, none⟩) n cap) n f) (k m c : Nat) (hk : k + m ≤ n) (hm : 0 < m) (t e ty : TypeId) (ht : P.underlying t = some (.slice e)) (hz : (zeroValue e).run P w = .ok (.int .i64 0) w) :
    (Builtin.clear_ #[t] ty #[.slice (some ⟨g, off + k, none⟩) m c]).run P w = .ok (.tuple #[]) (w.setCells g (off + k) (ints m (fun _ => 0))) := by
  obtain ⟨k1, k2, k3, k4, k5⟩ := h.known (by omega)
  have hcs : (Builtin.zeroCells #[Value.int .i64 0] m).toList = ints m (fun _ => 0) := by
    apply List.ext_getElem
    · simp [Builtin.zeroCells, ints]
    · intro i h1 h2
      simp [Builtin.zeroCells, ints, Nat.mod_one]
  have hst := run_storeCells_cells (P := P) g (off + k) (ints m (fun _ => 0)) 0 w (fun j hj => by
    rw [ints_length] at hj
    rw [show off + k + 0 + j = off + (k + j) by omega, k4 _ (by omega)]; rfl) (fun j _ => k5 rfl _) (ints_one _ _)
  obtain ⟨m', rfl⟩ : ∃ m', m = m' + 1 := ⟨m - 1, by omega⟩
  simp only [Nat.add_zero] at hst
  simp [Builtin.clear_, run_underlying ht, hz, Value.cells]
  rw [hcs, hst]
  rfl

/-- 'copy(dst, src)', written out: m numbers go over, from dst's place k on. -/
theorem run_copy_ints {P : Program} (h : Sl true w lo hi (.slice (some ⟨g, off, none⟩) n cap) n f) (k m : Nat) (hk : k + m ≤ n) {o' : Bool} {lo' hi' n' : Nat} {ad : Addr} {q : Nat → Int} (dLen dCap cap' : Nat)
    (_ : Sl o' w lo' hi' (.slice (some ad) n' cap') n' q) (hm : m = Nat.min n' dLen) (hq : ∀ j u, ((List.range n').map (fun j => Value.int .i64 (q j)))[j]? = some u → w.cell? (ad.add j) = some u)
    (t e ty : TypeId) (ht : P.underlying t = some (.slice e)) (hs : (P.info? e).map (·.size) = some 1) :
    (Builtin.copy_ #[t, t] ty #[.slice (some ⟨g, off + k, none⟩) dLen dCap, .slice (some ad) n' cap']).run P w = .ok (goInt m) (w.setCells g (off + k) (ints m q)) := by
  rcases Nat.eq_zero_or_pos m with h0 | h0
  · have := run_copy_none (P := P) w t t ty e (some ⟨g, off + k, none⟩) (some ad) dLen dCap n' cap' ht hs (by omega)
    rw [this, h0]; rfl
  · obtain ⟨k1, k2, k3, k4, k5⟩ := h.known (by omega)
    have hle : m ≤ n' := by rw [hm]; exact Nat.min_le_left _ _
    have := run_copy_cells (P := P) w t t ty e g (off + k) dLen dCap ad n' cap' (ints m q) ht hs (by rw [ints_length]; exact hm) (fun j u hu => by
        have hj : j < m := by have := (List.getElem?_eq_some_iff.1 hu).1; rwa [ints_length] at this
        refine hq j u ?_
        rw [List.getElem?_map, List.getElem?_range (by omega)]
        unfold ints at hu
        rw [List.getElem?_map, List.getElem?_range hj] at hu
        exact hu) (fun j hj => by
        rw [ints_length] at hj
        rw [show off + k + j = off + (k + j) by omega, k4 _ (by omega)]; rfl) (fun j _ => k5 rfl _) (ints_one _ _)
    rw [ints_length] at this
    exact this

/-- The same from whatever slice, nil too. -/
theorem run_copy_sl {P : Program} (h : Sl true w lo hi (.slice (some ⟨g, off, none⟩) n cap) n f) (k m : Nat) (hk : k + m ≤ n) {o' : Bool} {lo' hi' n' : Nat} {a' : Option Addr} {q : Nat → Int} (dLen dCap cap' : Nat)
    (h' : Sl o' w lo' hi' (.slice a' n' cap') n' q) (hm : m = Nat.min n' dLen)
    (t e ty : TypeId) (ht : P.underlying t = some (.slice e)) (hs : (P.info? e).map (·.size) = some 1) :
    (Builtin.copy_ #[t, t] ty #[.slice (some ⟨g, off + k, none⟩) dLen dCap, .slice a' n' cap']).run P w = .ok (goInt m) (w.setCells g (off + k) (ints m q)) := by
  rcases h'.parts with ⟨hv, h0⟩ | ⟨ad, c, hv, hq⟩
  · cases hv
    have e0 : m = 0 := by rw [hm]; exact Nat.zero_min _
    subst e0
    exact run_copy_none (P := P) w t t ty e (some ⟨g, off + k, none⟩) none dLen dCap 0 0 ht hs (Nat.zero_min _)
  · cases hv
    exact run_copy_ints h k m hk dLen dCap cap' h' hm hq t e ty ht hs
end
end Go.Proofs.Ytnhpodlcgkgpbaa
