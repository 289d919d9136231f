/- Contracts of the laws' own helpers: sizes, copies, comparisons, marks. -/
import Derived.Test.YtnhpodlcgkgpbaaLeaf
import Derived.Deep.OwnRows
namespace Go.Proofs.Ytnhpodlcgkgpbaa
open Go.RowKit Go.ChangeShapes Go.Sort

theorem Try.info2 : (Try.prog.info? 2).map (fun i => (i.zero, i.size, i.bytes)) = some (some (.int .i64 0), 1, 8) := by kernel_rfl

theorem madeCells_at (z : Value) (n j : Nat) (h : j < n) : (madeCells #[z] n)[j]? = some z := by
  have e := toList_madeCells_one z n
  rw [← Array.getElem?_toList, e, List.getElem?_replicate, if_pos h]

theorem Sl.store0 {w : World} {lo hi g n cap i : Nat} {f : Nat → Int} {x : Int} (h : Sl true w lo hi (.slice (some ⟨g, 0, none⟩) n cap) n f) (hi' : i < n) (hx : inR x) :
    Sl true (w.setCell ⟨g, i, none⟩ (.int .i64 x)) lo hi (.slice (some ⟨g, 0, none⟩) n cap) n (fun j => if j = i then x else f j) := by
  have := h.store hi' hx
  rwa [Nat.zero_add] at this

/-- What is known of a slice whose value is written out. -/
theorem Sl.known {o : Bool} {w : World} {lo hi g off n cap : Nat} {f : Nat → Int} (h : Sl o w lo hi (.slice (some ⟨g, off, none⟩) n cap) n f) (hn : 0 < n) :
    lo ≤ g ∧ g < hi ∧ n ≤ cap ∧ (∀ j, j < n → w.cell? ⟨g, off + j, none⟩ = some (.int .i64 (f j))) ∧ (o = true → ∀ k, w.frozen? ⟨g, k, none⟩ = false) := by
  rcases h.2.2.2 with ⟨h4, _⟩ | ⟨g', off', cap', hv, hg, hg', hc, hc', hcell, hf⟩
  · omega
  · cases hv
    exact ⟨hg, hg', hc, hcell, hf⟩

/-- 's[k:]' of a slice with room. -/
theorem Sl.tail {o : Bool} {w : World} {lo hi g off n cap : Nat} {f : Nat → Int} (h : Sl o w lo hi (.slice (some ⟨g, off, none⟩) n cap) n f) (k : Nat) (hk : k < n) :
    Sl o w lo hi (.slice (some ⟨g, off + k, none⟩) (n - k) (cap - k)) (n - k) (fun j => f (j + k)) := by
  obtain ⟨k1, k2, k3, k4, k5⟩ := h.known (by omega)
  have hm := h.len
  obtain ⟨h1, _, h3, h4⟩ := h
  refine ⟨h1, by omega, fun j hj => h3 _ (by omega), .inr ⟨g, off + k, cap - k, rfl, k1, k2, by omega, ?_, fun j hj => ?_, k5⟩⟩
  · rcases h4 with ⟨h4, _⟩ | ⟨g', off', cap', hv, _, _, _, hc', _⟩
    · omega
    · cases hv; omega
  · rw [show off + k + j = off + (j + k) by omega]
    exact k4 (j + k) (by omega)

section
variable {o : Bool} {lo hi : Nat} {v : Value} {n : Nat} {f : Nat → Int}

theorem szInt64S_yes (a : Option Addr) (cap : Nat) (left : Int) (w : World) (hl : left ≤ 1048576) (hn : (n : Int) ≤ left) :
    Calls Try.prog 147 #[.slice a n cap, .int .i64 left] w fun e w' => e = .returned (.int .i64 (left - n)) ∧ w = w' := by
  go_enter Try.func147, Try.ntmps147
  go_wp2
  go_ret
  exact ⟨rfl, rfl⟩
theorem szInt64S_no (a : Option Addr) (cap : Nat) (left : Int) (w : World) (hm : n ≤ maxLen) (h0 : 0 ≤ left) (hl : left ≤ 1048576) (hn : left < (n : Int)) :
    Calls Try.prog 147 #[.slice a n cap, .int .i64 left] w fun e w' => e = .returned (.int .i64 (-1)) ∧ w = w' := by
  unfold maxLen at hm
  go_enter Try.func147, Try.ntmps147
  go_wp2
  go_ret
  exact ⟨rfl, rfl⟩

set_option maxHeartbeats 400000 in
theorem toInt64S_any (w : World) (hs : Sl o w lo hi v n f) (hn : n ≤ 1048576) :
    Calls Try.prog 152 #[v] w fun e w' => ∃ a' cap', e = .returned (.slice a' n cap') ∧ Sl true w' w.heap.size w'.heap.size (.slice a' n cap') n f ∧ Below w.heap.size w w' := by
  obtain ⟨a, cap, rfl⟩ := hs.shape
  have HS := Lib.hid hs; clear hs
  have hmk := run_make_row' (P := Try.prog) 22 2 (.int .i64 0) 8 Try.underlying22 Try.info2 rfl .i64 .i64 n (by omega) (by omega)
  go_enter Try.func152, Try.ntmps152
  go_wp2
  clear hmk
  go_loopw [4] (fun i wr => ∃ k : Nat, k ≤ n ∧ i = .int .i64 k ∧ Sl true wr w.heap.size (w.heap.size + 1) (.slice (some ⟨w.heap.size, 0, none⟩) n n) n (fun j => if j < k then f j else 0) ∧ Below w.heap.size w wr) (fun i _ => n - (intOf i).toNat)
  case atStart =>
    refine ⟨0, Nat.zero_le _, rfl, ?_, (Below.refl _ _).alloc (Nat.le_refl _) _⟩
    exact Sl.made w _ _ n n _ (Nat.le_refl _) HS.out.len (fun j hj => by simp [inR]) (fun j hj => by simp [madeCells_at _ _ _ hj])
  case round =>
    obtain ⟨k, hk, rfl, hown, hb⟩ := hrel
    have HO := Lib.hid hown; clear hown
    by_cases hlt : k < n
    · obtain ⟨g, off, cap', hv, _, hg, _, _, hc, _⟩ := HS.out.at (by omega)
      have hgs : g < w.heap.size := Nat.lt_of_lt_of_le hg HS.out.size
      obtain ⟨rfl, rfl⟩ : a = some ⟨g, off, none⟩ ∧ cap = cap' := by cases hv; exact ⟨rfl, rfl⟩
      clear hv hg
      have hck : wr.cell? ⟨g, off + k, none⟩ = some (.int .i64 (f k)) := by rw [hb.cell (p := ⟨g, off + k, none⟩) hgs]; exact hc k hlt
      clear hc
      have hck2 := (HO.out.known (by omega)).2.2.2.1 k hlt
      have hfr := (HO.out.known (by omega)).2.2.2.2 rfl k
      rw [Nat.zero_add] at hck2
      go_wp2
      go_roundw
      case rel =>
        refine ⟨k + 1, by omega, by go_num, ?_, hb.setCell (Nat.le_refl _) _⟩
        refine (HO.out.store0 hlt (HS.out.bd k hlt)).congr (fun j hj => ?_)
        by_cases e : j = k
        · subst e; simp
        · have : (j < k + 1) = (j < k) := by simp; omega
          simp [e, this]
      case measure => simp [intOf]; omega
    · have e : k = n := by omega
      subst e
      go_wp2
      go_ret
      refine ⟨_, _, rfl, ?_, hb⟩
      exact (HO.out.congr (fun j hj => by simp [hj])).wide (Nat.le_refl _) HO.out.size (Nat.le_refl _)

theorem szCyclo_yes (x : Int) (a : Option Addr) (cap : Nat) (left : Int) (w : World) (hl : left ≤ 1048576) (hn : (n : Int) ≤ left) :
    Calls Try.prog 69 #[.agg #[.int .i64 x, .slice a n cap], .int .i64 left] w fun e w' => e = .returned (.int .i64 (left - n)) ∧ Below w.heap.size w w' := by
  go_enter Try.func69, Try.ntmps69
  go_wp2_with (go_at_call 147; refine (szInt64S_yes _ _ _ _ hl hn).mono ?_; rintro e w' ⟨rfl, rfl⟩)
  go_ret
  exact ⟨rfl, by go_grown⟩
theorem szCyclo_no (x : Int) (a : Option Addr) (cap : Nat) (left : Int) (w : World) (hm : n ≤ maxLen) (h0 : 0 ≤ left) (hl : left ≤ 1048576) (hn : left < (n : Int)) :
    Calls Try.prog 69 #[.agg #[.int .i64 x, .slice a n cap], .int .i64 left] w fun e w' => e = .returned (.int .i64 (-1)) ∧ Below w.heap.size w w' := by
  go_enter Try.func69, Try.ntmps69
  go_wp2_with (go_at_call 147; refine (szInt64S_no _ _ _ _ hm h0 hl hn).mono ?_; rintro e w' ⟨rfl, rfl⟩)
  go_ret
  exact ⟨rfl, by go_grown⟩

set_option maxHeartbeats 400000 in
theorem toCyclo_any (x : Int) (w : World) (hs : Sl o w lo hi v n f) (hn : n ≤ 1048576) :
    Calls Try.prog 71 #[.agg #[.int .i64 x, v]] w fun e w' => ∃ a' cap', e = .returned (.agg #[.int .i64 x, .slice a' n cap']) ∧ Sl true w' w.heap.size w'.heap.size (.slice a' n cap') n f ∧ Below w.heap.size w w' := by
  obtain ⟨a, cap, rfl⟩ := hs.shape
  have HS := Lib.hid hs; clear hs
  go_enter Try.func71, Try.ntmps71
  go_wp2_with fail
  refine (toInt64S_any _ (HS.out.keep ((((Below.refl w.heap.size w).alloc (by simp) _).alloc (by simp) _).alloc (by simp; omega) _) HS.out.size) hn).mono ?_
  rintro e w1 ⟨a', cap', rfl, hv, hb⟩
  obtain ⟨hc1, hf1⟩ := bcell hb
  have hz := hb.size
  simp only [World.size_alloc] at hc1 hf1 hz hv
  have hz1 : w.heap.size + 1 < w1.heap.size := by omega
  have hz2 : w.heap.size + 1 + 1 < w1.heap.size := by omega
  have HV := Lib.hid hv; clear hv
  have HB : Below w.heap.size w w1 := ((((Below.refl w.heap.size w).alloc (Nat.le_refl _) _).alloc (by simp) _).alloc (by simp; omega) _).trans (hb.mono (by simp; omega))
  go_wp2
  refine bodyPost_ret (v := .agg #[.int .i64 x, .slice a' n cap']) (by simp [results, Try.results71, go_sem, hc1]) rfl ?_
  refine ⟨_, _, rfl, ?_, by go_grown⟩
  exact (((HV.out.setOther (.inl (by simp)) _).setOther (.inl (by simp)) _).setOther (.inl (by simp)) _).wide (by omega) (by simp) (Nat.le_refl _)

theorem eqInt64S_yes {o' : Bool} {lo' hi' : Nat} {v' : Value} {f' : Nat → Int} (w : World) (hs : Sl o w lo hi v n f) (hs' : Sl o' w lo' hi' v' n f') (he : ∀ j, j < n → f j = f' j) :
    Calls Try.prog 157 #[v, v'] w fun e w' => e = .returned (.bool true) ∧ Below w.heap.size w w' := by
  obtain ⟨a, cap, rfl⟩ := hs.shape
  obtain ⟨a', cap', rfl⟩ := hs'.shape
  have hm := hs.len
  unfold maxLen at hm
  have HS := Lib.hid hs; clear hs
  have HS' := Lib.hid hs'; clear hs'
  have HE := Lib.hid he; clear he
  go_enter Try.func157, Try.ntmps157
  go_wp2
  go_loopw [5] (fun i wr => ∃ k : Nat, k ≤ n ∧ i = .int .i64 k ∧ Below w.heap.size w wr) (fun i _ => n - (intOf i).toNat)
  case atStart => exact ⟨0, Nat.zero_le _, rfl, Below.refl _ _⟩
  case round =>
    obtain ⟨k, hk, rfl, hb⟩ := hrel
    by_cases hlt : k < n
    · obtain ⟨g, off, c1, hv, _, hg, _, _, hc, _⟩ := HS.out.at (by omega)
      have hgs : g < w.heap.size := Nat.lt_of_lt_of_le hg HS.out.size
      obtain ⟨rfl, rfl⟩ : a = some ⟨g, off, none⟩ ∧ cap = c1 := by cases hv; exact ⟨rfl, rfl⟩
      obtain ⟨g', off', c1', hv', _, hg', _, _, hc', _⟩ := HS'.out.at (by omega)
      have hgs' : g' < w.heap.size := Nat.lt_of_lt_of_le hg' HS'.out.size
      obtain ⟨rfl, rfl⟩ : a' = some ⟨g', off', none⟩ ∧ cap' = c1' := by cases hv'; exact ⟨rfl, rfl⟩
      clear hv hg hv' hg'
      have hck : wr.cell? ⟨g, off + k, none⟩ = some (.int .i64 (f k)) := by rw [hb.cell (p := ⟨g, off + k, none⟩) hgs]; exact hc k hlt
      have hck' : wr.cell? ⟨g', off' + k, none⟩ = some (.int .i64 (f k)) := by rw [hb.cell (p := ⟨g', off' + k, none⟩) hgs', HE.out k hlt]; exact hc' k hlt
      clear hc hc'
      go_wp2
      go_quiet (fail)
      go_wp2
      go_roundw
      case rel => exact ⟨k + 1, by omega, by go_num, below_drewN hb _⟩
      case measure => simp [intOf]; omega
    · go_wp2
      go_ret
      exact ⟨rfl, hb⟩

theorem eqCyclo_yes {o' : Bool} {lo' hi' : Nat} {v' : Value} {f' : Nat → Int} (x : Int) (w : World) (hs : Sl o w lo hi v n f) (hs' : Sl o' w lo' hi' v' n f') (he : ∀ j, j < n → f j = f' j) :
    Calls Try.prog 73 #[.agg #[.int .i64 x, v], .agg #[.int .i64 x, v']] w fun e w' => e = .returned (.bool true) ∧ Below w.heap.size w w' := by
  obtain ⟨a, cap, rfl⟩ := hs.shape
  obtain ⟨a', cap', rfl⟩ := hs'.shape
  have HS := Lib.hid hs; clear hs
  have HS' := Lib.hid hs'; clear hs'
  have HE := Lib.hid he; clear he
  go_enter Try.func73, Try.ntmps73
  go_wp2_with (go_at_call 157; refine (eqInt64S_yes _ ((HS.out.alloc _).alloc _) ((HS'.out.alloc _).alloc _) HE.out).mono ?_; rintro e w1 ⟨rfl, hb⟩)
  go_ret
  exact ⟨rfl, (((Below.refl w.heap.size w).alloc (Nat.le_refl _) _).alloc (by simp) _).trans (hb.mono (by simp; omega))⟩

theorem markInt64S_any (k : Int) (w : World) (hs : Sl true w lo hi v n f) (hk : 0 ≤ k) (hk' : k ≤ 4611686018427387904) (hn : n ≤ 1048576) :
    Calls Try.prog 158 #[v, .int .i64 k] w fun e w' => e = .returned (.int .i64 (k + n)) ∧ Sl true w' lo hi v n (fun j => k + j) ∧ Frame lo hi w w' := by
  obtain ⟨a, cap, rfl⟩ := hs.shape
  have HS := Lib.hid hs; clear hs
  go_enter Try.func158, Try.ntmps158
  go_wp2
  go_loopw [1, 5] (fun q i wr => ∃ m : Nat, m ≤ n ∧ i = .int .i64 m ∧ q = .int .i64 (k + m) ∧ Sl true wr lo hi (.slice a n cap) n (fun j => if j < m then k + j else f j) ∧ Frame lo hi w wr) (fun _ i _ => n - (intOf i).toNat)
  case atStart => exact ⟨0, Nat.zero_le _, rfl, by go_num, HS.out.congr (fun j hj => by simp), Frame.refl _ _ _⟩
  case round =>
    obtain ⟨m, hm, rfl, rfl, hown, hfr⟩ := hrel
    have HO := Lib.hid hown; clear hown
    by_cases hlt : m < n
    · obtain ⟨g, off, c1, hv, _⟩ := HO.out.at (by omega)
      obtain ⟨rfl, rfl⟩ : a = some ⟨g, off, none⟩ ∧ cap = c1 := by cases hv; exact ⟨rfl, rfl⟩
      clear hv
      obtain ⟨hg1, hg2, _, hc, hz⟩ := HO.out.known (by omega)
      have hck := hc m hlt
      have hfz := hz rfl (off + m)
      clear hc hz
      go_wp2
      go_roundw
      case rel =>
        refine ⟨m + 1, by omega, by go_num, by go_num, ?_, hfr.setCell hg1 hg2 _⟩
        refine (HO.out.store hlt (by unfold inR; omega)).congr (fun j hj => ?_)
        by_cases e : j = m
        · subst e; simp
        · have : (j < m + 1) = (j < m) := by simp; omega
          simp [e, this]
      case measure => simp [intOf]; omega
    · have e : m = n := by omega
      subst e
      go_wp2
      go_ret
      exact ⟨rfl, HO.out.congr (fun j hj => by simp [hj]), hfr⟩

theorem heldInt64S_any (k : Int) (w : World) (hs : Sl o w lo hi v n (fun j => k + j)) (hk : 0 ≤ k) (hk' : k ≤ 4611686018427387904) (hn : n ≤ 1048576) :
    Calls Try.prog 159 #[v, .int .i64 k] w fun e w' => e = .returned (.int .i64 (k + n)) ∧ Below w.heap.size w w' := by
  obtain ⟨a, cap, rfl⟩ := hs.shape
  have HS := Lib.hid hs; clear hs
  go_enter Try.func159, Try.ntmps159
  go_wp2
  go_loop [1, 5] (fun q i => ∃ m : Nat, m ≤ n ∧ i = .int .i64 m ∧ q = .int .i64 (k + m)) (fun _ i => n - (intOf i).toNat)
  case atStart => exact ⟨0, Nat.zero_le _, rfl, by go_num⟩
  case round =>
    obtain ⟨m, hm, rfl, rfl⟩ := hrel
    by_cases hlt : m < n
    · obtain ⟨g, off, c1, hv, _⟩ := HS.out.at (by omega)
      obtain ⟨rfl, rfl⟩ : a = some ⟨g, off, none⟩ ∧ cap = c1 := by cases hv; exact ⟨rfl, rfl⟩
      clear hv
      obtain ⟨hg1, hg2, _, hc, hz⟩ := HS.out.known (by omega)
      have hck := hc m hlt
      clear hc hz
      go_wp2
      go_round
      case rel => exact ⟨m + 1, by omega, by go_num, by go_num⟩
      case measure => simp [intOf]; omega
    · have e : m = n := by omega
      subst e
      go_wp2
      go_ret
      exact ⟨rfl, Below.refl _ _⟩

theorem markCyclo_any (x k : Int) (w : World) (hs : Sl true w lo hi v n f) (hk : 0 ≤ k) (hk' : k ≤ 4611686018427387904) (hn : n ≤ 1048576) :
    Calls Try.prog 74 #[.agg #[.int .i64 x, v], .int .i64 k] w fun e w' => e = .returned (.int .i64 (k + n)) ∧ Sl true w' lo hi v n (fun j => k + j) ∧ Frame lo hi w w' := by
  obtain ⟨a, cap, rfl⟩ := hs.shape
  have HS := Lib.hid hs; clear hs
  go_enter Try.func74, Try.ntmps74
  go_wp2_with (go_at_call 158; refine (markInt64S_any _ _ (HS.out.alloc _) hk hk' hn).mono ?_; rintro e w1 ⟨rfl, s1, f1⟩)
  go_ret
  exact ⟨rfl, s1, ((Frame.refl lo hi w).alloc _).trans f1⟩

theorem heldCyclo_any (x k : Int) (w : World) (hs : Sl o w lo hi v n (fun j => k + j)) (hk : 0 ≤ k) (hk' : k ≤ 4611686018427387904) (hn : n ≤ 1048576) :
    Calls Try.prog 75 #[.agg #[.int .i64 x, v], .int .i64 k] w fun e w' => e = .returned (.int .i64 (k + n)) ∧ Below w.heap.size w w' := by
  obtain ⟨a, cap, rfl⟩ := hs.shape
  have HS := Lib.hid hs; clear hs
  go_enter Try.func75, Try.ntmps75
  go_wp2_with (go_at_call 159; refine (heldInt64S_any _ _ (HS.out.alloc _) hk hk' hn).mono ?_; rintro e w1 ⟨rfl, b1⟩)
  go_ret
  exact ⟨rfl, ((Below.refl w.heap.size w).alloc (Nat.le_refl _) _).trans (b1.mono (by simp))⟩
end
end Go.Proofs.Ytnhpodlcgkgpbaa
