/- MultiplyRings of the model. -/
import Derived.Test.YtonopjbccdpbhaaRgTm
import Derived.Test.YtonopjbccdpbhaaRgOr
namespace Go.Proofs.Ytonopjbccdpbhaa
open Go.RowKit Go.ChangeShapes Go.Sort
set_option linter.unusedVariables false
set_option linter.unusedSimpArgs false
set_option maxRecDepth 100000
set_option maxHeartbeats 2000000
def In5 (x : Int) : Prop := -100000 ≤ x ∧ x ≤ 100000
/-- The first place where a Part is too great. -/
theorem first_out {L : Nat} {f g : Nat → Int} (h : ¬ (Within f L 100000 ∧ Within g L 100000)) : ∃ m, m < L ∧ ¬ (In5 (f m) ∧ In5 (g m)) ∧ ∀ j, j < m → In5 (f j) ∧ In5 (g j) := by
  induction L with
  | zero => exact absurd ⟨fun j hj => absurd hj (Nat.not_lt_zero _), fun j hj => absurd hj (Nat.not_lt_zero _)⟩ h
  | succ L ih =>
    by_cases e : Within f L 100000 ∧ Within g L 100000
    · refine ⟨L, Nat.lt_succ_self _, fun q => h ⟨fun j hj => ?_, fun j hj => ?_⟩, fun j hj => ⟨e.1 j hj, e.2 j hj⟩⟩
      · by_cases e2 : j = L
        · rw [e2]; exact q.1
        · exact e.1 j (by omega)
      · by_cases e2 : j = L
        · rw [e2]; exact q.2
        · exact e.2 j (by omega)
    · obtain ⟨m, h1, h2, h3⟩ := ih e
      exact ⟨m, by omega, h2, h3⟩
section
variable {o o' : Bool} {lo hi lo' hi' n m : Nat} {v v' : Value} {f g : Nat → Int}
theorem MultiplyRings_spec_bad (x y c : Int) (w : World) (hs : Sl o w lo hi v n f) (ht : Sl o' w lo' hi' v' m g) (hc : ringC x y n m f g = c) (hc0 : c ≠ 0) :
    Calls Try.prog 26 #[.agg #[.int .i64 x, v], .agg #[.int .i64 y, v']] w fun e w' => e = .returned (.tuple #[.agg #[.int .i64 0, .slice none 0 0], .int .i64 c]) ∧ Below w.heap.size w w' := by
  have HC := Lib.hid hc
  clear hc
  have hb : (c != 0) = true := by simpa using hc0
  have hb' : (c == 0) = false := by simpa using hc0
  have hm := hs.len
  have hm' := ht.len
  unfold maxLen at hm hm'
  obtain ⟨a, cap, rfl⟩ := hs.shape
  obtain ⟨a', cap', rfl⟩ := ht.shape
  have hhs := hs.size
  have hht := ht.size
  have st := (((((St.start w).addSl ⟨o, lo, hi, .slice a n cap, n, f⟩ hs).addSl ⟨o', lo', hi', .slice a' m cap', m, g⟩ ht).alloc (.cells #[.int .i64 x, .slice a n cap] 26)).addBox w.heap.size [.int .i64 x, .slice a n cap] (Box.made _ _ _ _ (fun j v h => by simpa using h)))
  replace st := (st.alloc (.cells #[.int .i64 y, .slice a' m cap'] 26)).addBox _ [.int .i64 y, .slice a' m cap'] (Box.made _ _ _ _ (fun j v h => by simpa using h))
  replace st := (st.alloc (.cells #[.int .i64 0, .slice none 0 0] 26)).addBox _ [.int .i64 0, .slice none 0 0] (Box.made _ _ _ _ (fun j v h => by simpa using h))
  simp only [World.size_alloc] at st
  clear hs ht
  have q0 := st.sl 1 ⟨o, lo, hi, .slice a n cap, n, f⟩ rfl
  have q1 := st.sl 0 ⟨o', lo', hi', .slice a' m cap', m, g⟩ rfl
  dsimp only at q0 q1
  obtain ⟨x0, x1⟩ := (st.box 2 (w.heap.size, [.int .i64 x, .slice a n cap]) rfl).cell2
  obtain ⟨y0, y1⟩ := (st.box 1 (w.heap.size + 1, [.int .i64 y, .slice a' m cap']) rfl).cell2
  go_enter Try.func26, Try.ntmps26
  go_wp2_with fail
  refine (l10Like_any _ _ _ q0 q1).mono ?_
  rw [HC.out]
  rintro e w1 ⟨rfl, b1⟩
  clear q0 q1 x0 x1 y0 y1
  have Z1 := Lib.hid (show w.heap.size + 3 ≤ w1.heap.size from by have := b1.size; simp only [World.size_alloc] at this; omega)
  replace st := st.keep b1
  clear b1
  obtain ⟨x0, x1⟩ := (st.box 2 (w.heap.size, [.int .i64 x, .slice a n cap]) rfl).cell2
  obtain ⟨y0, y1⟩ := (st.box 1 (w.heap.size + 1, [.int .i64 y, .slice a' m cap']) rfl).cell2
  have BR := st.box 0 (w.heap.size + 1 + 1, [.int .i64 0, .slice none 0 0]) rfl
  dsimp only at BR
  go_wp2_with fail
  clear x0 x1 y0 y1 BR
  go_loopw [6, 7] (fun s6 s7 wr => s6 = .int .i64 c ∧ s7 = .int .i64 0 ∧ St w wr [(w.heap.size + 1 + 1, [.int .i64 0, .slice none 0 0]), (w.heap.size + 1, [.int .i64 y, .slice a' m cap']), (w.heap.size, [.int .i64 x, .slice a n cap])] [⟨o', lo', hi', .slice a' m cap', m, g⟩, ⟨o, lo, hi, .slice a n cap, n, f⟩]) (fun _ _ _ => 0)
  case atStart => exact ⟨rfl, rfl, st⟩
  case round =>
    clear st
    obtain ⟨rfl, rfl, st⟩ := hrel
    obtain ⟨x0, x1⟩ := (st.box 2 (w.heap.size, [.int .i64 x, .slice a n cap]) rfl).cell2
    obtain ⟨y0, y1⟩ := (st.box 1 (w.heap.size + 1, [.int .i64 y, .slice a' m cap']) rfl).cell2
    have BR := st.box 0 (w.heap.size + 1 + 1, [.int .i64 0, .slice none 0 0]) rfl
    dsimp only at BR
    by_cases hn0 : (0 : Int) < (n : Int)
    · go_wp2_with (first
        | (refine wpList_storeR rfl _ _ rfl (w.heap.size + 1 + 1) rfl (v0 := .int .i64 0) (v1 := .slice none 0 0) rfl rfl rfl BR ?_; intro w9 x9 f9
           obtain ⟨d0, d1⟩ := x9.cell2))
      refine bodyPost_ret (v := .tuple #[.agg #[.int .i64 0, .slice none 0 0], .int .i64 c]) (by simp [results, Try.results26, go_sem, d0, d1]) rfl ⟨rfl, ?_⟩
      exact st.1.trans (f9.below (by omega) st.1.size)
    · go_wp2_with (first
        | (refine wpList_storeR rfl _ _ rfl (w.heap.size + 1 + 1) rfl (v0 := .int .i64 0) (v1 := .slice none 0 0) rfl rfl rfl BR ?_; intro w9 x9 f9
           obtain ⟨d0, d1⟩ := x9.cell2))
      refine bodyPost_ret (v := .tuple #[.agg #[.int .i64 0, .slice none 0 0], .int .i64 c]) (by simp [results, Try.results26, go_sem, d0, d1]) rfl ⟨rfl, ?_⟩
      exact st.1.trans (f9.below (by omega) st.1.size)
theorem MultiplyRings_spec_out (N : Nat) {L M : Nat} (w : World) (hs : Sl o w lo hi v L f) (ht : Sl o' w lo' hi' v' L g) (h : RgP N L f) (h' : RgP N L g) (hM : M < L) (hbad : ¬ (In5 (f M) ∧ In5 (g M))) (hgood : ∀ j, j < M → In5 (f j) ∧ In5 (g j)) :
    Calls Try.prog 26 #[.agg #[.int .i64 (N : Int), v], .agg #[.int .i64 (N : Int), v']] w fun e w' => e = .returned (.tuple #[.agg #[.int .i64 0, .slice none 0 0], .int .i64 2]) ∧ Below w.heap.size w w' := by
  have h2 : 2 ≤ N := by have := h.1; omega
  have h40 : N ≤ 40 := by have := h.2.1; omega
  have hp := phi_le40 N (by omega)
  have hp0 := phi_pos40 N (by omega) (by omega)
  have hn : L = phiN N := h.2.2.1
  have HC := Lib.hid (ringC_ok h h' rfl)
  have HLN := Lib.hid hn
  have hL0 : 0 < L := by omega
  have hL40 : L ≤ 40 := by omega
  have HB := Lib.hid hbad
  have HG := Lib.hid hgood
  clear h h' hn hbad hgood
  have hm := hs.len
  have hm' := ht.len
  unfold maxLen at hm hm'
  obtain ⟨a, cap, rfl⟩ := hs.shape
  obtain ⟨a', cap', rfl⟩ := ht.shape
  have hhs := hs.size
  have hht := ht.size
  have st := (((((St.start w).addSl ⟨o, lo, hi, .slice a L cap, L, f⟩ hs).addSl ⟨o', lo', hi', .slice a' L cap', L, g⟩ ht).alloc (.cells #[.int .i64 (N : Int), .slice a L cap] 26)).addBox w.heap.size [.int .i64 (N : Int), .slice a L cap] (Box.made _ _ _ _ (fun j v h => by simpa using h)))
  replace st := (st.alloc (.cells #[.int .i64 (N : Int), .slice a' L cap'] 26)).addBox _ [.int .i64 (N : Int), .slice a' L cap'] (Box.made _ _ _ _ (fun j v h => by simpa using h))
  replace st := (st.alloc (.cells #[.int .i64 0, .slice none 0 0] 26)).addBox _ [.int .i64 0, .slice none 0 0] (Box.made _ _ _ _ (fun j v h => by simpa using h))
  simp only [World.size_alloc] at st
  clear hs ht
  have q0 := st.sl 1 ⟨o, lo, hi, .slice a L cap, L, f⟩ rfl
  have q1 := st.sl 0 ⟨o', lo', hi', .slice a' L cap', L, g⟩ rfl
  dsimp only at q0 q1
  obtain ⟨x0, x1⟩ := (st.box 2 (w.heap.size, [.int .i64 (N : Int), .slice a L cap]) rfl).cell2
  obtain ⟨y0, y1⟩ := (st.box 1 (w.heap.size + 1, [.int .i64 (N : Int), .slice a' L cap']) rfl).cell2
  go_enter Try.func26, Try.ntmps26
  go_wp2_with fail
  refine (l10Like_any _ _ _ q0 q1).mono ?_
  rw [HC.out]
  rintro e w1 ⟨rfl, b1⟩
  clear q0 q1 x0 x1 y0 y1
  have Z1 := Lib.hid (show w.heap.size + 3 ≤ w1.heap.size from by have := b1.size; simp only [World.size_alloc] at this; omega)
  replace st := st.keep b1
  clear b1
  obtain ⟨b, off, cap9, hv9, hbl, hbh, -⟩ := (st.sl 1 ⟨o, lo, hi, .slice a L cap, L, f⟩ rfl).at hL0
  obtain ⟨rfl, rfl⟩ : a = some ⟨b, off, none⟩ ∧ cap = cap9 := by cases hv9; exact ⟨rfl, rfl⟩
  obtain ⟨b', off', cap8, hv8, hbl', hbh', -⟩ := (st.sl 0 ⟨o', lo', hi', .slice a' L cap', L, g⟩ rfl).at hL0
  obtain ⟨rfl, rfl⟩ : a' = some ⟨b', off', none⟩ ∧ cap' = cap8 := by cases hv8; exact ⟨rfl, rfl⟩
  clear hv9 hv8
  obtain ⟨x0, x1⟩ := (st.box 2 (w.heap.size, [.int .i64 (N : Int), .slice (some ⟨b, off, none⟩) L cap]) rfl).cell2
  obtain ⟨y0, y1⟩ := (st.box 1 (w.heap.size + 1, [.int .i64 (N : Int), .slice (some ⟨b', off', none⟩) L cap']) rfl).cell2
  have BR := st.box 0 (w.heap.size + 1 + 1, [.int .i64 0, .slice none 0 0]) rfl
  dsimp only at BR
  go_wp2_with fail
  clear x0 x1 y0 y1 BR
  go_loopw [6, 7] (fun s6 s7 wr => ∃ i : Nat, (i ≤ M ∧ s6 = .int .i64 0 ∨ i = M + 1 ∧ s6 = .int .i64 2) ∧ s7 = .int .i64 (i : Int) ∧ St w wr [(w.heap.size + 1 + 1, [.int .i64 0, .slice none 0 0]), (w.heap.size + 1, [.int .i64 (N : Int), .slice (some ⟨b', off', none⟩) L cap']), (w.heap.size, [.int .i64 (N : Int), .slice (some ⟨b, off, none⟩) L cap])] [⟨o', lo', hi', .slice (some ⟨b', off', none⟩) L cap', L, g⟩, ⟨o, lo, hi, .slice (some ⟨b, off, none⟩) L cap, L, f⟩]) (fun _ s7 _ => L + 1 - (intOf s7).toNat)
  case atStart => exact ⟨0, .inl ⟨by omega, rfl⟩, rfl, st⟩
  case round =>
    clear st
    obtain ⟨i, hi3, rfl, st⟩ := hrel
    obtain ⟨x0, x1⟩ := (st.box 2 (w.heap.size, [.int .i64 (N : Int), .slice (some ⟨b, off, none⟩) L cap]) rfl).cell2
    obtain ⟨y0, y1⟩ := (st.box 1 (w.heap.size + 1, [.int .i64 (N : Int), .slice (some ⟨b', off', none⟩) L cap']) rfl).cell2
    have BR := st.box 0 (w.heap.size + 1 + 1, [.int .i64 0, .slice none 0 0]) rfl
    dsimp only at BR
    rcases hi3 with ⟨hiM, rfl⟩ | ⟨rfl, rfl⟩
    · have hlt : i < L := by omega
      have hcx := (st.sl 1 ⟨o, lo, hi, .slice (some ⟨b, off, none⟩) L cap, L, f⟩ rfl).known (by show 0 < L; omega)
      replace hcx := hcx.2.2.2.1 i hlt
      have hcy := (st.sl 0 ⟨o', lo', hi', .slice (some ⟨b', off', none⟩) L cap', L, g⟩ rfl).known (by show 0 < L; omega)
      replace hcy := hcy.2.2.2.1 i hlt
      dsimp only at hcx hcy
      have hki : (i : Int) < (L : Int) := by omega
      by_cases e : i < M
      · have hgo := HG.out i e
        have q1 := hgo.1.1
        have q2 := hgo.1.2
        have q3 := hgo.2.1
        have q4 := hgo.2.2
        clear hgo
        go_wp2_with (go_at_call 100; refine (l01In_yes _ _ _ _ (by omega) (by omega)).mono ?_; rintro e w' ⟨rfl, rfl⟩)
        go_roundw
        case rel => exact ⟨i + 1, .inl ⟨by omega, rfl⟩, by go_num, st⟩
        case measure => simp [intOf] <;> omega
      · obtain rfl : M = i := by omega
        by_cases e1 : In5 (f M)
        · have e2 : ¬ In5 (g M) := fun q => HB.out ⟨e1, q⟩
          have q1 := e1.1
          have q2 := e1.2
          have q3 : g M < -100000 ∨ 100000 < g M := by unfold In5 at e2; omega
          clear e1 e2
          go_wp2_with (first
            | (go_at_call 100; refine (l01In_yes _ _ _ _ (by omega) (by omega)).mono ?_; rintro e w' ⟨rfl, rfl⟩)
            | (go_at_call 100; refine (l01In_no _ _ _ _ (by omega)).mono ?_; rintro e w' ⟨rfl, rfl⟩))
          go_roundw
          case rel => exact ⟨M + 1, .inr ⟨rfl, rfl⟩, by go_num, st⟩
          case measure => simp [intOf] <;> omega
        · have q3 : f M < -100000 ∨ 100000 < f M := by unfold In5 at e1; omega
          clear e1
          go_wp2_with (go_at_call 100; refine (l01In_no _ _ _ _ (by omega)).mono ?_; rintro e w' ⟨rfl, rfl⟩)
          go_roundw
          case rel => exact ⟨M + 1, .inr ⟨rfl, rfl⟩, by go_num, st⟩
          case measure => simp [intOf] <;> omega
    · by_cases hn0 : ((M + 1 : Nat) : Int) < (L : Int)
      · go_wp2_with (first
          | (refine wpList_storeR rfl _ _ rfl (w.heap.size + 1 + 1) rfl (v0 := .int .i64 0) (v1 := .slice none 0 0) rfl rfl rfl BR ?_; intro w9 x9 f9
             obtain ⟨d0, d1⟩ := x9.cell2))
        refine bodyPost_ret (v := .tuple #[.agg #[.int .i64 0, .slice none 0 0], .int .i64 2]) (by simp [results, Try.results26, go_sem, d0, d1]) rfl ⟨rfl, ?_⟩
        exact st.1.trans (f9.below (by omega) st.1.size)
      · go_wp2_with (first
          | (refine wpList_storeR rfl _ _ rfl (w.heap.size + 1 + 1) rfl (v0 := .int .i64 0) (v1 := .slice none 0 0) rfl rfl rfl BR ?_; intro w9 x9 f9
             obtain ⟨d0, d1⟩ := x9.cell2))
        refine bodyPost_ret (v := .tuple #[.agg #[.int .i64 0, .slice none 0 0], .int .i64 2]) (by simp [results, Try.results26, go_sem, d0, d1]) rfl ⟨rfl, ?_⟩
        exact st.1.trans (f9.below (by omega) st.1.size)
theorem MultiplyRings_spec_ok (N : Nat) {L : Nat} (w : World) (hs : Sl o w lo hi v L f) (ht : Sl o' w lo' hi' v' L g) (h : RgP N L f) (h' : RgP N L g) (hfw : Within f (phiN N) 100000) (hgw : Within g (phiN N) 100000) (hw : Within (fun j => prR N f g (phiN N) j) (phiN N) 1000000000) :
    Calls Try.prog 26 #[.agg #[.int .i64 (N : Int), v], .agg #[.int .i64 (N : Int), v']] w fun e w' => ∃ a' cap', e = .returned (.tuple #[.agg #[.int .i64 (N : Int), .slice a' (phiN N) cap'], .int .i64 0]) ∧ Sl true w' w.heap.size w'.heap.size (.slice a' (phiN N) cap') (phiN N) (fun j => prR N f g (phiN N) j) ∧ Below w.heap.size w w' := by
  have h2 : 2 ≤ N := by have := h.1; omega
  have h40 : N ≤ 40 := by have := h.2.1; omega
  have hp := phi_le40 N (by omega)
  have hp0 := phi_pos40 N (by omega) (by omega)
  have hn : L = phiN N := h.2.2.1
  have HC := Lib.hid (ringC_ok h h' rfl)
  have HLN := Lib.hid hn
  have hL0 : 0 < L := by omega
  have hL40 : L ≤ 40 := by omega
  have HW := Lib.hid hw
  have HFW := Lib.hid hfw
  have HGW := Lib.hid hgw
  clear h h' hn hw hfw hgw
  have hm := hs.len
  have hm' := ht.len
  unfold maxLen at hm hm'
  obtain ⟨a, cap, rfl⟩ := hs.shape
  obtain ⟨a', cap', rfl⟩ := ht.shape
  have hhs := hs.size
  have hht := ht.size
  have st := (((((St.start w).addSl ⟨o, lo, hi, .slice a L cap, L, f⟩ hs).addSl ⟨o', lo', hi', .slice a' L cap', L, g⟩ ht).alloc (.cells #[.int .i64 (N : Int), .slice a L cap] 26)).addBox w.heap.size [.int .i64 (N : Int), .slice a L cap] (Box.made _ _ _ _ (fun j v h => by simpa using h)))
  replace st := (st.alloc (.cells #[.int .i64 (N : Int), .slice a' L cap'] 26)).addBox _ [.int .i64 (N : Int), .slice a' L cap'] (Box.made _ _ _ _ (fun j v h => by simpa using h))
  replace st := (st.alloc (.cells #[.int .i64 0, .slice none 0 0] 26)).addBox _ [.int .i64 0, .slice none 0 0] (Box.made _ _ _ _ (fun j v h => by simpa using h))
  simp only [World.size_alloc] at st
  clear hs ht
  have q0 := st.sl 1 ⟨o, lo, hi, .slice a L cap, L, f⟩ rfl
  have q1 := st.sl 0 ⟨o', lo', hi', .slice a' L cap', L, g⟩ rfl
  dsimp only at q0 q1
  obtain ⟨x0, x1⟩ := (st.box 2 (w.heap.size, [.int .i64 (N : Int), .slice a L cap]) rfl).cell2
  obtain ⟨y0, y1⟩ := (st.box 1 (w.heap.size + 1, [.int .i64 (N : Int), .slice a' L cap']) rfl).cell2
  go_enter Try.func26, Try.ntmps26
  go_wp2_with fail
  refine (l10Like_any _ _ _ q0 q1).mono ?_
  rw [HC.out]
  rintro e w1 ⟨rfl, b1⟩
  clear q0 q1 x0 x1 y0 y1
  have Z1 := Lib.hid (show w.heap.size + 3 ≤ w1.heap.size from by have := b1.size; simp only [World.size_alloc] at this; omega)
  replace st := st.keep b1
  clear b1
  obtain ⟨b, off, cap9, hv9, hbl, hbh, -⟩ := (st.sl 1 ⟨o, lo, hi, .slice a L cap, L, f⟩ rfl).at hL0
  obtain ⟨rfl, rfl⟩ : a = some ⟨b, off, none⟩ ∧ cap = cap9 := by cases hv9; exact ⟨rfl, rfl⟩
  obtain ⟨b', off', cap8, hv8, hbl', hbh', -⟩ := (st.sl 0 ⟨o', lo', hi', .slice a' L cap', L, g⟩ rfl).at hL0
  obtain ⟨rfl, rfl⟩ : a' = some ⟨b', off', none⟩ ∧ cap' = cap8 := by cases hv8; exact ⟨rfl, rfl⟩
  clear hv9 hv8
  obtain ⟨x0, x1⟩ := (st.box 2 (w.heap.size, [.int .i64 (N : Int), .slice (some ⟨b, off, none⟩) L cap]) rfl).cell2
  obtain ⟨y0, y1⟩ := (st.box 1 (w.heap.size + 1, [.int .i64 (N : Int), .slice (some ⟨b', off', none⟩) L cap']) rfl).cell2
  have BR := st.box 0 (w.heap.size + 1 + 1, [.int .i64 0, .slice none 0 0]) rfl
  dsimp only at BR
  go_wp2_with fail
  clear x0 x1 y0 y1 BR
  go_loopw [6, 7] (fun s6 s7 wr => ∃ i : Nat, i ≤ L ∧ s6 = .int .i64 0 ∧ s7 = .int .i64 (i : Int) ∧ St w wr [(w.heap.size + 1 + 1, [.int .i64 0, .slice none 0 0]), (w.heap.size + 1, [.int .i64 (N : Int), .slice (some ⟨b', off', none⟩) L cap']), (w.heap.size, [.int .i64 (N : Int), .slice (some ⟨b, off, none⟩) L cap])] [⟨o', lo', hi', .slice (some ⟨b', off', none⟩) L cap', L, g⟩, ⟨o, lo, hi, .slice (some ⟨b, off, none⟩) L cap, L, f⟩]) (fun _ s7 _ => L - (intOf s7).toNat)
  case atStart => exact ⟨0, by omega, rfl, rfl, st⟩
  case round =>
    clear st
    obtain ⟨i, hil, rfl, rfl, st⟩ := hrel
    obtain ⟨x0, x1⟩ := (st.box 2 (w.heap.size, [.int .i64 (N : Int), .slice (some ⟨b, off, none⟩) L cap]) rfl).cell2
    obtain ⟨y0, y1⟩ := (st.box 1 (w.heap.size + 1, [.int .i64 (N : Int), .slice (some ⟨b', off', none⟩) L cap']) rfl).cell2
    have BR := st.box 0 (w.heap.size + 1 + 1, [.int .i64 0, .slice none 0 0]) rfl
    dsimp only at BR
    by_cases hlt : i < L
    · have hip : i < phiN N := by have := HLN.out; omega
      have hcx := (st.sl 1 ⟨o, lo, hi, .slice (some ⟨b, off, none⟩) L cap, L, f⟩ rfl).known (by show 0 < L; omega)
      replace hcx := hcx.2.2.2.1 i hlt
      have hcy := (st.sl 0 ⟨o', lo', hi', .slice (some ⟨b', off', none⟩) L cap', L, g⟩ rfl).known (by show 0 < L; omega)
      replace hcy := hcy.2.2.2.1 i hlt
      dsimp only at hcx hcy
      have hki : (i : Int) < (L : Int) := by omega
      have q1 := (HFW.out i hip).1
      have q2 := (HFW.out i hip).2
      have q3 := (HGW.out i hip).1
      have q4 := (HGW.out i hip).2
      go_wp2_with (go_at_call 100; refine (l01In_yes _ _ _ _ (by omega) (by omega)).mono ?_; rintro e w' ⟨rfl, rfl⟩)
      go_roundw
      case rel => exact ⟨i + 1, by omega, rfl, by go_num, st⟩
      case measure => simp [intOf] <;> omega
    · obtain rfl : L = i := by omega
      have ZR := Lib.hid (show w.heap.size + 1 + 1 < wr.heap.size from (st.box 0 (w.heap.size + 1 + 1, [.int .i64 0, .slice none 0 0]) rfl).1)
      go_wp2_with (first
        | (go_at_call 102; refine (l10Times_any N _ (st.sl 1 ⟨o, lo, hi, .slice (some ⟨b, off, none⟩) L cap, L, f⟩ rfl) (st.sl 0 ⟨o', lo', hi', .slice (some ⟨b', off', none⟩) L cap', L, g⟩ rfl) h2 h40 HLN.out HFW.out HGW.out).mono ?_; rintro e w5 ⟨a5, k5, rfl, s5, b5⟩
           have Z5 := Lib.hid b5.size
           have HQ := Lib.hid s5
           replace st := st.keep b5
           clear b5 s5 BR)
        | (go_at_call 101; refine (l10Told_ok _ _ HQ.out HW.out).mono ?_; rintro e w6 ⟨rfl, b6⟩
           have Z6 := Lib.hid b6.size
           have q6 := Lib.hid (HQ.out.keep b6 HQ.out.size)
           replace st := st.keep b6
           clear b6)
        | ((fail_if_success (have _g := Z7)); refine wpList_allocR rfl rfl ?_; intro w7 x7 b7 z7
           have Z7 := Lib.hid z7
           have BN := x7
           have q7 := Lib.hid (q6.out.keep b7 q6.out.size)
           replace st := (st.keep b7).addBox _ _ x7
           clear x7 b7 z7)
        | ((fail_if_success (have _g := Z8)); refine wpList_storeR rfl _ _ rfl w6.heap.size rfl (v0 := .int .i64 (N : Int)) (v1 := .slice a5 (phiN N) k5) rfl rfl rfl BN ?_; intro w8 x8 f8
           have Z8 := Lib.hid f8.size
           have q8 := Lib.hid (q7.out.keepF f8 (.inl (by have := Z6.out; omega)))
           replace st := st.headR x8 f8 (by have := Z5.out; have := Z6.out; have := ZR.out; omega) (by have := Z5.out; have := Z6.out; have := ZR.out; intro q hq; simp only [List.mem_cons, List.not_mem_nil, or_false] at hq; rcases hq with rfl | rfl | rfl <;> dsimp only <;> omega) (by have := Z5.out; have := Z6.out; have := ZR.out; intro q hq; simp only [List.mem_cons, List.not_mem_nil, or_false] at hq; rcases hq with rfl | rfl <;> dsimp only <;> omega)
           have BR := st.box 1 (w.heap.size + 1 + 1, [.int .i64 0, .slice none 0 0]) rfl
           dsimp only at BR
           obtain ⟨c0, c1⟩ := (st.box 0 (w6.heap.size, [.int .i64 (N : Int), .slice a5 (phiN N) k5]) rfl).cell2
           clear x8 f8)
        | (refine wpList_storeR rfl _ _ rfl (w.heap.size + 1 + 1) rfl (v0 := .int .i64 (N : Int)) (v1 := .slice a5 (phiN N) k5) rfl rfl rfl BR ?_; intro w9 x9 f9
           obtain ⟨d0, d1⟩ := x9.cell2))
      refine bodyPost_ret (v := .tuple #[.agg #[.int .i64 (N : Int), .slice a5 (phiN N) k5], .int .i64 0]) (by simp [results, Try.results26, go_sem, d0, d1]) rfl ?_
      refine ⟨_, _, rfl, ?_, ?_⟩
      · refine ((q8.out.keepF f9 (.inr (by have := ZR.out; omega))).wide (by have := ZR.out; omega) ?_ (Nat.le_refl _))
        have := q8.out.size
        have := f9.size
        omega
      · exact st.1.trans (f9.below (by omega) st.1.size)
theorem MultiplyRings_spec_big (N : Nat) {L : Nat} (w : World) (hs : Sl o w lo hi v L f) (ht : Sl o' w lo' hi' v' L g) (h : RgP N L f) (h' : RgP N L g) (hfw : Within f (phiN N) 100000) (hgw : Within g (phiN N) 100000) (hw : ¬ Within (fun j => prR N f g (phiN N) j) (phiN N) 1000000000) :
    Calls Try.prog 26 #[.agg #[.int .i64 (N : Int), v], .agg #[.int .i64 (N : Int), v']] w fun e w' => e = .returned (.tuple #[.agg #[.int .i64 0, .slice none 0 0], .int .i64 3]) ∧ Below w.heap.size w w' := by
  have h2 : 2 ≤ N := by have := h.1; omega
  have h40 : N ≤ 40 := by have := h.2.1; omega
  have hp := phi_le40 N (by omega)
  have hp0 := phi_pos40 N (by omega) (by omega)
  have hn : L = phiN N := h.2.2.1
  have HC := Lib.hid (ringC_ok h h' rfl)
  have HLN := Lib.hid hn
  have hL0 : 0 < L := by omega
  have hL40 : L ≤ 40 := by omega
  have HW := Lib.hid hw
  have HFW := Lib.hid hfw
  have HGW := Lib.hid hgw
  clear h h' hn hw hfw hgw
  have hm := hs.len
  have hm' := ht.len
  unfold maxLen at hm hm'
  obtain ⟨a, cap, rfl⟩ := hs.shape
  obtain ⟨a', cap', rfl⟩ := ht.shape
  have hhs := hs.size
  have hht := ht.size
  have st := (((((St.start w).addSl ⟨o, lo, hi, .slice a L cap, L, f⟩ hs).addSl ⟨o', lo', hi', .slice a' L cap', L, g⟩ ht).alloc (.cells #[.int .i64 (N : Int), .slice a L cap] 26)).addBox w.heap.size [.int .i64 (N : Int), .slice a L cap] (Box.made _ _ _ _ (fun j v h => by simpa using h)))
  replace st := (st.alloc (.cells #[.int .i64 (N : Int), .slice a' L cap'] 26)).addBox _ [.int .i64 (N : Int), .slice a' L cap'] (Box.made _ _ _ _ (fun j v h => by simpa using h))
  replace st := (st.alloc (.cells #[.int .i64 0, .slice none 0 0] 26)).addBox _ [.int .i64 0, .slice none 0 0] (Box.made _ _ _ _ (fun j v h => by simpa using h))
  simp only [World.size_alloc] at st
  clear hs ht
  have q0 := st.sl 1 ⟨o, lo, hi, .slice a L cap, L, f⟩ rfl
  have q1 := st.sl 0 ⟨o', lo', hi', .slice a' L cap', L, g⟩ rfl
  dsimp only at q0 q1
  obtain ⟨x0, x1⟩ := (st.box 2 (w.heap.size, [.int .i64 (N : Int), .slice a L cap]) rfl).cell2
  obtain ⟨y0, y1⟩ := (st.box 1 (w.heap.size + 1, [.int .i64 (N : Int), .slice a' L cap']) rfl).cell2
  go_enter Try.func26, Try.ntmps26
  go_wp2_with fail
  refine (l10Like_any _ _ _ q0 q1).mono ?_
  rw [HC.out]
  rintro e w1 ⟨rfl, b1⟩
  clear q0 q1 x0 x1 y0 y1
  have Z1 := Lib.hid (show w.heap.size + 3 ≤ w1.heap.size from by have := b1.size; simp only [World.size_alloc] at this; omega)
  replace st := st.keep b1
  clear b1
  obtain ⟨b, off, cap9, hv9, hbl, hbh, -⟩ := (st.sl 1 ⟨o, lo, hi, .slice a L cap, L, f⟩ rfl).at hL0
  obtain ⟨rfl, rfl⟩ : a = some ⟨b, off, none⟩ ∧ cap = cap9 := by cases hv9; exact ⟨rfl, rfl⟩
  obtain ⟨b', off', cap8, hv8, hbl', hbh', -⟩ := (st.sl 0 ⟨o', lo', hi', .slice a' L cap', L, g⟩ rfl).at hL0
  obtain ⟨rfl, rfl⟩ : a' = some ⟨b', off', none⟩ ∧ cap' = cap8 := by cases hv8; exact ⟨rfl, rfl⟩
  clear hv9 hv8
  obtain ⟨x0, x1⟩ := (st.box 2 (w.heap.size, [.int .i64 (N : Int), .slice (some ⟨b, off, none⟩) L cap]) rfl).cell2
  obtain ⟨y0, y1⟩ := (st.box 1 (w.heap.size + 1, [.int .i64 (N : Int), .slice (some ⟨b', off', none⟩) L cap']) rfl).cell2
  have BR := st.box 0 (w.heap.size + 1 + 1, [.int .i64 0, .slice none 0 0]) rfl
  dsimp only at BR
  go_wp2_with fail
  clear x0 x1 y0 y1 BR
  go_loopw [6, 7] (fun s6 s7 wr => ∃ i : Nat, i ≤ L ∧ s6 = .int .i64 0 ∧ s7 = .int .i64 (i : Int) ∧ St w wr [(w.heap.size + 1 + 1, [.int .i64 0, .slice none 0 0]), (w.heap.size + 1, [.int .i64 (N : Int), .slice (some ⟨b', off', none⟩) L cap']), (w.heap.size, [.int .i64 (N : Int), .slice (some ⟨b, off, none⟩) L cap])] [⟨o', lo', hi', .slice (some ⟨b', off', none⟩) L cap', L, g⟩, ⟨o, lo, hi, .slice (some ⟨b, off, none⟩) L cap, L, f⟩]) (fun _ s7 _ => L - (intOf s7).toNat)
  case atStart => exact ⟨0, by omega, rfl, rfl, st⟩
  case round =>
    clear st
    obtain ⟨i, hil, rfl, rfl, st⟩ := hrel
    obtain ⟨x0, x1⟩ := (st.box 2 (w.heap.size, [.int .i64 (N : Int), .slice (some ⟨b, off, none⟩) L cap]) rfl).cell2
    obtain ⟨y0, y1⟩ := (st.box 1 (w.heap.size + 1, [.int .i64 (N : Int), .slice (some ⟨b', off', none⟩) L cap']) rfl).cell2
    have BR := st.box 0 (w.heap.size + 1 + 1, [.int .i64 0, .slice none 0 0]) rfl
    dsimp only at BR
    by_cases hlt : i < L
    · have hip : i < phiN N := by have := HLN.out; omega
      have hcx := (st.sl 1 ⟨o, lo, hi, .slice (some ⟨b, off, none⟩) L cap, L, f⟩ rfl).known (by show 0 < L; omega)
      replace hcx := hcx.2.2.2.1 i hlt
      have hcy := (st.sl 0 ⟨o', lo', hi', .slice (some ⟨b', off', none⟩) L cap', L, g⟩ rfl).known (by show 0 < L; omega)
      replace hcy := hcy.2.2.2.1 i hlt
      dsimp only at hcx hcy
      have hki : (i : Int) < (L : Int) := by omega
      have q1 := (HFW.out i hip).1
      have q2 := (HFW.out i hip).2
      have q3 := (HGW.out i hip).1
      have q4 := (HGW.out i hip).2
      go_wp2_with (go_at_call 100; refine (l01In_yes _ _ _ _ (by omega) (by omega)).mono ?_; rintro e w' ⟨rfl, rfl⟩)
      go_roundw
      case rel => exact ⟨i + 1, by omega, rfl, by go_num, st⟩
      case measure => simp [intOf] <;> omega
    · obtain rfl : L = i := by omega
      have ZR := Lib.hid (show w.heap.size + 1 + 1 < wr.heap.size from (st.box 0 (w.heap.size + 1 + 1, [.int .i64 0, .slice none 0 0]) rfl).1)
      go_wp2_with (first
        | (go_at_call 102; refine (l10Times_any N _ (st.sl 1 ⟨o, lo, hi, .slice (some ⟨b, off, none⟩) L cap, L, f⟩ rfl) (st.sl 0 ⟨o', lo', hi', .slice (some ⟨b', off', none⟩) L cap', L, g⟩ rfl) h2 h40 HLN.out HFW.out HGW.out).mono ?_; rintro e w5 ⟨a5, k5, rfl, s5, b5⟩
           have Z5 := Lib.hid b5.size
           have HQ := Lib.hid s5
           replace st := st.keep b5
           clear b5 s5 BR)
        | (go_at_call 101; refine (l10Told_big _ _ HQ.out HW.out).mono ?_; rintro e w6 ⟨rfl, b6⟩
           have Z6 := Lib.hid b6.size
           have q6 := Lib.hid (HQ.out.keep b6 HQ.out.size)
           replace st := st.keep b6
           clear b6)
        | ((fail_if_success (have _g := Z7)); refine wpList_allocR rfl rfl ?_; intro w7 x7 b7 z7
           have Z7 := Lib.hid z7
           have BN := x7
           have q7 := Lib.hid (q6.out.keep b7 q6.out.size)
           replace st := (st.keep b7).addBox _ _ x7
           clear x7 b7 z7)
        | ((fail_if_success (have _g := Z8)); refine wpList_storeR rfl _ _ rfl w6.heap.size rfl (v0 := .int .i64 0) (v1 := .slice none 0 0) rfl rfl rfl BN ?_; intro w8 x8 f8
           have Z8 := Lib.hid f8.size
           have q8 := Lib.hid (q7.out.keepF f8 (.inl (by have := Z6.out; omega)))
           replace st := st.headR x8 f8 (by have := Z5.out; have := Z6.out; have := ZR.out; omega) (by have := Z5.out; have := Z6.out; have := ZR.out; intro q hq; simp only [List.mem_cons, List.not_mem_nil, or_false] at hq; rcases hq with rfl | rfl | rfl <;> dsimp only <;> omega) (by have := Z5.out; have := Z6.out; have := ZR.out; intro q hq; simp only [List.mem_cons, List.not_mem_nil, or_false] at hq; rcases hq with rfl | rfl <;> dsimp only <;> omega)
           have BR := st.box 1 (w.heap.size + 1 + 1, [.int .i64 0, .slice none 0 0]) rfl
           dsimp only at BR
           obtain ⟨c0, c1⟩ := (st.box 0 (w6.heap.size, [.int .i64 0, .slice none 0 0]) rfl).cell2
           clear x8 f8)
        | (refine wpList_storeR rfl _ _ rfl (w.heap.size + 1 + 1) rfl (v0 := .int .i64 0) (v1 := .slice none 0 0) rfl rfl rfl BR ?_; intro w9 x9 f9
           obtain ⟨d0, d1⟩ := x9.cell2))
      refine bodyPost_ret (v := .tuple #[.agg #[.int .i64 0, .slice none 0 0], .int .i64 3]) (by simp [results, Try.results26, go_sem, d0, d1]) rfl ⟨rfl, ?_⟩
      exact st.1.trans (f9.below (by omega) st.1.size)
end
end Go.Proofs.Ytonopjbccdpbhaa
