/- Contracts of the laws' own helpers: sizes, copies, comparisons, marks. -/
import Derived.Test.YtopapdahpeemfaaDoorLeaf
import Derived.Deep.OwnRows
namespace Go.Proofs.YtopapdahpeemfaaDoor
open Go.RowKit Go.ChangeShapes Go.Sort

theorem Tryd.info2 : (Tryd.prog.info? 2).map (fun i => (i.zero, i.size, i.bytes)) = some (some (.int .i64 0), 1, 8) := by kernel_rfl

theorem madeCells_at (z : Value) (n j : Nat) (h : j < n) : (madeCells #[z] n)[j]? = some z := by
  have e := toList_madeCells_one z n
  rw [← Array.getElem?_toList, e, List.getElem?_replicate, if_pos h]

theorem Sl.store0 {w : World} {lo hi g n cap i : Nat} {f : Nat → Int} {x : Int} (h : Sl true w lo hi (.slice (some ⟨g, 0, none⟩) n cap) n f) (hi' : i < n) (hx : inR x) :
    Sl true (w.setCell ⟨g, i, none⟩ (.int .i64 x)) lo hi (.slice (some ⟨g, 0, none⟩) n cap) n (fun j => if j = i then x else f j) := by
  have := h.store hi' hx
  rwa [Nat.zero_add] at this

/-- What is known of a slice whose value is written out. -/
theorem Sl.known {o : Bool} {w : World} {lo hi g off n cap : Nat} {f : Nat → Int} (h : Sl o w lo hi (.slice (some ⟨g, off, none⟩) n cap) n f) (hn : 0 < n) :
    lo ≤ g ∧ g < hi ∧ n ≤ cap ∧ (∀ j, j < n → w.cell? ⟨g, off + j, none⟩ = some (.int .i64 (f j))) ∧ (o = true → ∀ k, w.frozen? ⟨g, k, none⟩ = false) := by
  rcases h.2.2.2 with ⟨h4, _⟩ | ⟨g', off', cap', hv, hg, hg', hc, hc', hcell, hf⟩
  · omega
  · cases hv
    exact ⟨hg, hg', hc, hcell, hf⟩

/-- 's[k:]' of a slice with room. -/
theorem Sl.tail {o : Bool} {w : World} {lo hi g off n cap : Nat} {f : Nat → Int} (h : Sl o w lo hi (.slice (some ⟨g, off, none⟩) n cap) n f) (k : Nat) (hk : k < n) :
    Sl o w lo hi (.slice (some ⟨g, off + k, none⟩) (n - k) (cap - k)) (n - k) (fun j => f (j + k)) := by
  obtain ⟨k1, k2, k3, k4, k5⟩ := h.known (by omega)
  have hm := h.len
  obtain ⟨h1, _, h3, h4⟩ := h
  refine ⟨h1, by omega, fun j hj => h3 _ (by omega), .inr ⟨g, off + k, cap - k, rfl, k1, k2, by omega, ?_, fun j hj => ?_, k5⟩⟩
  · rcases h4 with ⟨h4, _⟩ | ⟨g', off', cap', hv, _, _, _, hc', _⟩
    · omega
    · cases hv; omega
  · rw [show off + k + j = off + (j + k) by omega]
    exact k4 (j + k) (by omega)

section
variable {o : Bool} {lo hi : Nat} {v : Value} {n : Nat} {f : Nat → Int}

set_option maxHeartbeats 400000 in
theorem toInt64S_any (w : World) (hs : Sl o w lo hi v n f) (hn : n ≤ 1048576) :
    Calls Tryd.prog 5 #[v] w fun e w' => ∃ a' cap', e = .returned (.slice a' n cap') ∧ Sl true w' w.heap.size w'.heap.size (.slice a' n cap') n f ∧ Below w.heap.size w w' := by
  obtain ⟨a, cap, rfl⟩ := hs.shape
  have HS := Lib.hid hs; clear hs
  have hmk := run_make_row' (P := Tryd.prog) 22 2 (.int .i64 0) 8 Tryd.underlying22 Tryd.info2 rfl .i64 .i64 n (by omega) (by omega)
  go_enter Tryd.func5, Tryd.ntmps5
  go_wp2
  clear hmk
  go_loopw [4] (fun i wr => ∃ k : Nat, k ≤ n ∧ i = .int .i64 k ∧ Sl true wr w.heap.size (w.heap.size + 1) (.slice (some ⟨w.heap.size, 0, none⟩) n n) n (fun j => if j < k then f j else 0) ∧ Below w.heap.size w wr) (fun i _ => n - (intOf i).toNat)
  case atStart =>
    refine ⟨0, Nat.zero_le _, rfl, ?_, (Below.refl _ _).alloc (Nat.le_refl _) _⟩
    exact Sl.made w _ _ n n _ (Nat.le_refl _) HS.out.len (fun j hj => by simp [inR]) (fun j hj => by simp [madeCells_at _ _ _ hj])
  case round =>
    obtain ⟨k, hk, rfl, hown, hb⟩ := hrel
    have HO := Lib.hid hown; clear hown
    by_cases hlt : k < n
    · obtain ⟨g, off, cap', hv, _, hg, _, _, hc, _⟩ := HS.out.at (by omega)
      have hgs : g < w.heap.size := Nat.lt_of_lt_of_le hg HS.out.size
      obtain ⟨rfl, rfl⟩ : a = some ⟨g, off, none⟩ ∧ cap = cap' := by cases hv; exact ⟨rfl, rfl⟩
      clear hv hg
      have hck : wr.cell? ⟨g, off + k, none⟩ = some (.int .i64 (f k)) := by rw [hb.cell (p := ⟨g, off + k, none⟩) hgs]; exact hc k hlt
      clear hc
      have hck2 := (HO.out.known (by omega)).2.2.2.1 k hlt
      have hfr := (HO.out.known (by omega)).2.2.2.2 rfl k
      rw [Nat.zero_add] at hck2
      go_wp2
      go_roundw
      case rel =>
        refine ⟨k + 1, by omega, by go_num, ?_, hb.setCell (Nat.le_refl _) _⟩
        refine (HO.out.store0 hlt (HS.out.bd k hlt)).congr (fun j hj => ?_)
        by_cases e : j = k
        · subst e; simp
        · have : (j < k + 1) = (j < k) := by simp; omega
          simp [e, this]
      case measure => simp [intOf]; omega
    · have e : k = n := by omega
      subst e
      go_wp2
      go_ret
      refine ⟨_, _, rfl, ?_, hb⟩
      exact (HO.out.congr (fun j hj => by simp [hj])).wide (Nat.le_refl _) HO.out.size (Nat.le_refl _)

theorem eqInt64S_yes {o' : Bool} {lo' hi' : Nat} {v' : Value} {f' : Nat → Int} (w : World) (hs : Sl o w lo hi v n f) (hs' : Sl o' w lo' hi' v' n f') (he : ∀ j, j < n → f j = f' j) :
    Calls Tryd.prog 7 #[v, v'] w fun e w' => e = .returned (.bool true) ∧ Below w.heap.size w w' := by
  obtain ⟨a, cap, rfl⟩ := hs.shape
  obtain ⟨a', cap', rfl⟩ := hs'.shape
  have hm := hs.len
  unfold maxLen at hm
  have HS := Lib.hid hs; clear hs
  have HS' := Lib.hid hs'; clear hs'
  have HE := Lib.hid he; clear he
  go_enter Tryd.func7, Tryd.ntmps7
  go_wp2
  go_loopw [5] (fun i wr => ∃ k : Nat, k ≤ n ∧ i = .int .i64 k ∧ Below w.heap.size w wr) (fun i _ => n - (intOf i).toNat)
  case atStart => exact ⟨0, Nat.zero_le _, rfl, Below.refl _ _⟩
  case round =>
    obtain ⟨k, hk, rfl, hb⟩ := hrel
    by_cases hlt : k < n
    · obtain ⟨g, off, c1, hv, _, hg, _, _, hc, _⟩ := HS.out.at (by omega)
      have hgs : g < w.heap.size := Nat.lt_of_lt_of_le hg HS.out.size
      obtain ⟨rfl, rfl⟩ : a = some ⟨g, off, none⟩ ∧ cap = c1 := by cases hv; exact ⟨rfl, rfl⟩
      obtain ⟨g', off', c1', hv', _, hg', _, _, hc', _⟩ := HS'.out.at (by omega)
      have hgs' : g' < w.heap.size := Nat.lt_of_lt_of_le hg' HS'.out.size
      obtain ⟨rfl, rfl⟩ : a' = some ⟨g', off', none⟩ ∧ cap' = c1' := by cases hv'; exact ⟨rfl, rfl⟩
      clear hv hg hv' hg'
      have hck : wr.cell? ⟨g, off + k, none⟩ = some (.int .i64 (f k)) := by rw [hb.cell (p := ⟨g, off + k, none⟩) hgs]; exact hc k hlt
      have hck' : wr.cell? ⟨g', off' + k, none⟩ = some (.int .i64 (f k)) := by rw [hb.cell (p := ⟨g', off' + k, none⟩) hgs', HE.out k hlt]; exact hc' k hlt
      clear hc hc'
      go_wp2
      go_quiet (fail)
      go_wp2
      go_roundw
      case rel => exact ⟨k + 1, by omega, by go_num, below_drewN hb _⟩
      case measure => simp [intOf]; omega
    · go_wp2
      go_ret
      exact ⟨rfl, hb⟩

end
end Go.Proofs.YtopapdahpeemfaaDoor
