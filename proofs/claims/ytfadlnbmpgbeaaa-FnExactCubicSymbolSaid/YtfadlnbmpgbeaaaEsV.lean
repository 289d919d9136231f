/- Chosen and primary associates of the model. -/
import Derived.Test.YtfadlnbmpgbeaaaEsT
import Derived.Deep.RegionLaw
import Derived.Deep.QuietTactic
import Derived.BigQuiet
namespace Go.Proofs.Ytfadlnbmpgbeaaa
open Go.RowKit Go.ChangeShapes Go.Sort
set_option linter.unusedVariables false
set_option linter.unusedSimpArgs false
set_option maxRecDepth 100000
set_option maxHeartbeats 4000000

theorem St.nosl {W w : World} {bs : List (Nat × List Value)} {ss : List SlF} (h : St W w bs ss) : St W w bs [] := ⟨h.1, h.2.1, fun _ h => absurd h List.not_mem_nil⟩
section
variable {o o' : Bool} {lo hi n lo' hi' n' : Nat} {v v' : Value} {f f' : Nat → Int}
theorem l09Chosen_any (x : Int) (w : World) (hs : Sl o w lo hi v 2 f) (ha : -20000 ≤ f 0) (ha' : f 0 ≤ 20000) (hb : -20000 ≤ f 1) (hb' : f 1 ≤ 20000) (hn0 : ¬ (f 0 = 0 ∧ f 1 = 0)) :
    Calls Try.prog 60 #[.agg #[.int .i64 x, v]] w fun e w' => ∃ g k, e = .returned (.agg #[.int .i64 3, .slice g 2 k]) ∧ Sl true w' w.heap.size w'.heap.size (.slice g 2 k) 2 (two (chA (f 0) (f 1)) (chB (f 0) (f 1))) ∧ Below w.heap.size w w' := by
  obtain ⟨A, hA0⟩ : ∃ A, chA (f 0) (f 1) = A := ⟨_, rfl⟩
  obtain ⟨B, hB0⟩ : ∃ B, chB (f 0) (f 1) = B := ⟨_, rfl⟩
  rw [hA0, hB0]
  have HA0 := Lib.hid hA0
  have HB0 := Lib.hid hB0
  have HN0 := Lib.hid hn0
  clear hA0 hB0 hn0
  have hh := hs.size
  obtain ⟨av, cap, rfl⟩ := hs.shape
  have hm := hs.len
  unfold maxLen at hm
  have st := ((((St.start w).addSl ⟨o, lo, hi, .slice av 2 cap, 2, f⟩ hs).alloc (.cells #[.int .i64 x, .slice av 2 cap] 27)).addBox w.heap.size [.int .i64 x, .slice av 2 cap] (Box.made _ _ _ _ (fun j v h => by simpa using h)))
  replace st := (st.alloc (.cells #[.int .i64 0, .slice none 0 0] 27)).addBox _ [.int .i64 0, .slice none 0 0] (Box.made _ _ _ _ (fun j v h => by simpa using h))
  simp only [World.size_alloc] at st
  go_enter Try.func60, Try.ntmps60
  go_wp2_with fail
  go_loopg [] (cst (f 0) (f 1)) (fun k wr => ∃ (y : Int) (av : Option Addr) (cap : Nat) (o2 : Bool) (l2 h2 : Nat) (f2 : Nat → Int), Hid (cst (f2 0) (f2 1) = k) ∧ (-40000 ≤ f2 0 ∧ f2 0 ≤ 40000 ∧ -40000 ≤ f2 1 ∧ f2 1 ≤ 40000 ∧ -40000 ≤ f2 0 - f2 1 ∧ f2 0 - f2 1 ≤ 40000) ∧ Hid (¬ (f2 0 = 0 ∧ f2 1 = 0)) ∧ Hid (chA (f2 0) (f2 1) = A) ∧ Hid (chB (f2 0) (f2 1) = B) ∧ (h2 ≤ w.heap.size ∨ w.heap.size + 2 ≤ l2) ∧ St w wr [(w.heap.size, [.int .i64 y, .slice av 2 cap]), (w.heap.size + 1, [.int .i64 0, .slice none 0 0])] [⟨o2, l2, h2, .slice av 2 cap, 2, f2⟩])
  case atStart => exact ⟨x, av, cap, o, lo, hi, f, Lib.hid rfl, by omega, HN0, HA0, HB0, .inl hh, st.swp⟩
  case round =>
    clear st hs
    obtain ⟨y, av, cap, o2, l2, h2, f2, HK, hbd, HN, HA, HB, hl2, st⟩ := hrel
    have q0 := st.sl 0 ⟨o2, l2, h2, .slice av 2 cap, 2, f2⟩ rfl
    dsimp only at q0
    obtain ⟨g, off, rfl, _, hgi, hcap, e0, e1, i0, i1⟩ := q0.two
    have q0s := q0.size
    obtain ⟨c, hc⟩ : ∃ c, f2 0 = c := ⟨_, rfl⟩
    obtain ⟨d, hd⟩ : ∃ d, f2 1 = d := ⟨_, rfl⟩
    rw [hc] at e0 i0
    rw [hd] at e1 i1
    rw [hc, hd] at hbd HN HA HB HK
    have HCD := Lib.hid (show f2 0 = c ∧ f2 1 = d from ⟨hc, hd⟩)
    clear hc hd
    obtain ⟨x0, x1⟩ := (st.box 0 _ rfl).cell2
    have xz := (st.box 0 _ rfl).2.2
    have xs := (st.box 0 _ rfl).1
    dsimp only at x0 x1 xz xs
    obtain ⟨r0, r1⟩ := (st.box 1 _ rfl).cell2
    have rz := (st.box 1 _ rfl).2.2
    have rs := (st.box 1 _ rfl).1
    dsimp only at r0 r1 rz rs
    have KEEP := Lib.hid st
    by_cases k1 : c < 1
    · have hch : ¬ isCh c d := fun h => by have := h.1; omega
      have kb1 : decide (c < 1) = true := decide_eq_true k1
      go_wp2_with fail
      go_quiet (fail)
      have DD := Lib.hid KEEP.out.drew
      go_wp2_with fail
      go_region_law (first
          | (go_simp; go_at_call 91; refine (l09Of_any 1 1 _ (by unfold inR; omega) (by unfold inR; omega)).mono ?_; rintro e w6 ⟨g6, k6, rfl, s6, b6⟩; have st6 := (by first | exact KEEP.out.drew.drew.keep b6 | exact (KEEP.out.drewN _).drew.keep b6 | exact KEEP.out.drew.keep b6 | exact (KEEP.out.drewN _).keep b6 : St w w6 [(w.heap.size, [.int .i64 y, .slice (some ⟨g, off, none⟩) 2 cap]), (w.heap.size + 1, [.int .i64 0, .slice none 0 0])] [⟨o2, l2, h2, .slice (some ⟨g, off, none⟩) 2 cap, 2, f2⟩]); have q6 := st6.sl 0 ⟨o2, l2, h2, .slice (some ⟨g, off, none⟩) 2 cap, 2, f2⟩ rfl; dsimp only at q6; obtain ⟨x0, x1⟩ := (st6.box 0 _ rfl).cell2; have xz := (st6.box 0 _ rfl).2.2; have xs := (st6.box 0 _ rfl).1; dsimp only at x0 x1 xz xs)
          | (go_simp; go_at_call 90; refine (l09Times_any y 3 _ q6 s6 (by have := HCD.out; omega) (by have := HCD.out; omega) (by have := HCD.out; omega) (by have := HCD.out; omega) (by decide) (by decide) (by decide) (by decide)).mono ?_; rintro e w7 ⟨g7, k7, rfl, s7, b7⟩; have st7 := st6.keep b7; have z6 : wr.heap.size ≤ w6.heap.size := b6.size; have z7 := b7.size; obtain ⟨x0, x1⟩ := (st7.box 0 _ rfl).cell2; have xz := (st7.box 0 _ rfl).2.2; have xs := (st7.box 0 _ rfl).1; dsimp only at x0 x1 xz xs))
      all_goals
        have st8 := st7.setHead (u0 := .int .i64 3) (u1 := .slice g7 2 k7) (Nat.le_refl _) (by intro q hq; simp only [List.mem_cons, List.not_mem_nil, or_false] at hq; rcases hq with rfl <;> dsimp only <;> omega) (by intro q hq; simp only [List.mem_cons, List.not_mem_nil, or_false] at hq; rcases hq with rfl; dsimp only; omega)
        try simp only [World.size_drew, World.size_drewN, World.size_alloc] at z6
        have hcd := HCD.out
        rw [hcd.1, hcd.2] at s7
        have s8 := (s7.setOther (p := ⟨w.heap.size, 0, none⟩) (.inl (by show w.heap.size < _; omega)) (.int .i64 3)).setOther (p := ⟨w.heap.size, 1, none⟩) (.inl (by show w.heap.size < _; omega)) (.slice g7 2 k7)
        have st9 := st8.nosl.addSl ⟨true, w6.heap.size, w7.heap.size, .slice g7 2 k7, 2, two (tA c d 1 1) (tB c d 1 1)⟩ s8
        go_wp2
        have hne := HN.out
        have hA := HA.out
        have hB := HB.out
        have hk := HK.out
        have t0 : two (tA c d 1 1) (tB c d 1 1) 0 = c - d := by show tA c d 1 1 = _; unfold tA; omega
        have t1 : two (tA c d 1 1) (tB c d 1 1) 1 = c := by show tB c d 1 1 = _; unfold tB; omega
        go_roundg (cst (c - d) c)
        case rel => exact ⟨3, g7, k7, true, w6.heap.size, w7.heap.size, two (tA c d 1 1) (tB c d 1 1), Lib.hid (by rw [t0, t1]), by rw [t0, t1]; omega, Lib.hid (by rw [t0, t1]; exact turn_ne hne), Lib.hid (by rw [t0, t1]; exact (chA_turn hne).trans hA), Lib.hid (by rw [t0, t1]; exact (chB_turn hne).trans hB), .inr (by omega), st9⟩
        case measure => have := cst_turn hne hch; omega
    · by_cases k2 : d < 0
      · have hch : ¬ isCh c d := fun h => by have := h.2.1; omega
        have kb1 : decide (c < 1) = false := decide_eq_false k1
        have kb2 : decide (d < 0) = true := decide_eq_true k2
        go_wp2_with fail
        go_quiet (fail)
        have DD := Lib.hid KEEP.out.drew
        go_wp2_with fail
        go_region_law (first
            | (go_simp; go_at_call 91; refine (l09Of_any 1 1 _ (by unfold inR; omega) (by unfold inR; omega)).mono ?_; rintro e w6 ⟨g6, k6, rfl, s6, b6⟩; have st6 := (by first | exact KEEP.out.drew.drew.keep b6 | exact (KEEP.out.drewN _).drew.keep b6 | exact KEEP.out.drew.keep b6 | exact (KEEP.out.drewN _).keep b6 : St w w6 [(w.heap.size, [.int .i64 y, .slice (some ⟨g, off, none⟩) 2 cap]), (w.heap.size + 1, [.int .i64 0, .slice none 0 0])] [⟨o2, l2, h2, .slice (some ⟨g, off, none⟩) 2 cap, 2, f2⟩]); have q6 := st6.sl 0 ⟨o2, l2, h2, .slice (some ⟨g, off, none⟩) 2 cap, 2, f2⟩ rfl; dsimp only at q6; obtain ⟨x0, x1⟩ := (st6.box 0 _ rfl).cell2; have xz := (st6.box 0 _ rfl).2.2; have xs := (st6.box 0 _ rfl).1; dsimp only at x0 x1 xz xs)
            | (go_simp; go_at_call 90; refine (l09Times_any y 3 _ q6 s6 (by have := HCD.out; omega) (by have := HCD.out; omega) (by have := HCD.out; omega) (by have := HCD.out; omega) (by decide) (by decide) (by decide) (by decide)).mono ?_; rintro e w7 ⟨g7, k7, rfl, s7, b7⟩; have st7 := st6.keep b7; have z6 : wr.heap.size ≤ w6.heap.size := b6.size; have z7 := b7.size; obtain ⟨x0, x1⟩ := (st7.box 0 _ rfl).cell2; have xz := (st7.box 0 _ rfl).2.2; have xs := (st7.box 0 _ rfl).1; dsimp only at x0 x1 xz xs))
        all_goals
          have st8 := st7.setHead (u0 := .int .i64 3) (u1 := .slice g7 2 k7) (Nat.le_refl _) (by intro q hq; simp only [List.mem_cons, List.not_mem_nil, or_false] at hq; rcases hq with rfl <;> dsimp only <;> omega) (by intro q hq; simp only [List.mem_cons, List.not_mem_nil, or_false] at hq; rcases hq with rfl; dsimp only; omega)
          try simp only [World.size_drew, World.size_drewN, World.size_alloc] at z6
          have hcd := HCD.out
          rw [hcd.1, hcd.2] at s7
          have s8 := (s7.setOther (p := ⟨w.heap.size, 0, none⟩) (.inl (by show w.heap.size < _; omega)) (.int .i64 3)).setOther (p := ⟨w.heap.size, 1, none⟩) (.inl (by show w.heap.size < _; omega)) (.slice g7 2 k7)
          have st9 := st8.nosl.addSl ⟨true, w6.heap.size, w7.heap.size, .slice g7 2 k7, 2, two (tA c d 1 1) (tB c d 1 1)⟩ s8
          go_wp2
          have hne := HN.out
          have hA := HA.out
          have hB := HB.out
          have hk := HK.out
          have t0 : two (tA c d 1 1) (tB c d 1 1) 0 = c - d := by show tA c d 1 1 = _; unfold tA; omega
          have t1 : two (tA c d 1 1) (tB c d 1 1) 1 = c := by show tB c d 1 1 = _; unfold tB; omega
          go_roundg (cst (c - d) c)
          case rel => exact ⟨3, g7, k7, true, w6.heap.size, w7.heap.size, two (tA c d 1 1) (tB c d 1 1), Lib.hid (by rw [t0, t1]), by rw [t0, t1]; omega, Lib.hid (by rw [t0, t1]; exact turn_ne hne), Lib.hid (by rw [t0, t1]; exact (chA_turn hne).trans hA), Lib.hid (by rw [t0, t1]; exact (chB_turn hne).trans hB), .inr (by omega), st9⟩
          case measure => have := cst_turn hne hch; omega
      · by_cases k3 : c ≤ d
        · have hch : ¬ isCh c d := fun h => by have := h.2.2; omega
          have kb1 : decide (c < 1) = false := decide_eq_false k1
          have kb2 : decide (d < 0) = false := decide_eq_false k2
          have kb3 : decide (c ≤ d) = true := decide_eq_true k3
          go_wp2_with fail
          go_quiet (fail)
          have DD := Lib.hid KEEP.out.drew
          go_wp2_with fail
          go_region_law (first
              | (go_simp; go_at_call 91; refine (l09Of_any 1 1 _ (by unfold inR; omega) (by unfold inR; omega)).mono ?_; rintro e w6 ⟨g6, k6, rfl, s6, b6⟩; have st6 := (by first | exact KEEP.out.drew.drew.keep b6 | exact (KEEP.out.drewN _).drew.keep b6 | exact KEEP.out.drew.keep b6 | exact (KEEP.out.drewN _).keep b6 : St w w6 [(w.heap.size, [.int .i64 y, .slice (some ⟨g, off, none⟩) 2 cap]), (w.heap.size + 1, [.int .i64 0, .slice none 0 0])] [⟨o2, l2, h2, .slice (some ⟨g, off, none⟩) 2 cap, 2, f2⟩]); have q6 := st6.sl 0 ⟨o2, l2, h2, .slice (some ⟨g, off, none⟩) 2 cap, 2, f2⟩ rfl; dsimp only at q6; obtain ⟨x0, x1⟩ := (st6.box 0 _ rfl).cell2; have xz := (st6.box 0 _ rfl).2.2; have xs := (st6.box 0 _ rfl).1; dsimp only at x0 x1 xz xs)
              | (go_simp; go_at_call 90; refine (l09Times_any y 3 _ q6 s6 (by have := HCD.out; omega) (by have := HCD.out; omega) (by have := HCD.out; omega) (by have := HCD.out; omega) (by decide) (by decide) (by decide) (by decide)).mono ?_; rintro e w7 ⟨g7, k7, rfl, s7, b7⟩; have st7 := st6.keep b7; have z6 : wr.heap.size ≤ w6.heap.size := b6.size; have z7 := b7.size; obtain ⟨x0, x1⟩ := (st7.box 0 _ rfl).cell2; have xz := (st7.box 0 _ rfl).2.2; have xs := (st7.box 0 _ rfl).1; dsimp only at x0 x1 xz xs))
          all_goals
            have st8 := st7.setHead (u0 := .int .i64 3) (u1 := .slice g7 2 k7) (Nat.le_refl _) (by intro q hq; simp only [List.mem_cons, List.not_mem_nil, or_false] at hq; rcases hq with rfl <;> dsimp only <;> omega) (by intro q hq; simp only [List.mem_cons, List.not_mem_nil, or_false] at hq; rcases hq with rfl; dsimp only; omega)
            try simp only [World.size_drew, World.size_drewN, World.size_alloc] at z6
            have hcd := HCD.out
            rw [hcd.1, hcd.2] at s7
            have s8 := (s7.setOther (p := ⟨w.heap.size, 0, none⟩) (.inl (by show w.heap.size < _; omega)) (.int .i64 3)).setOther (p := ⟨w.heap.size, 1, none⟩) (.inl (by show w.heap.size < _; omega)) (.slice g7 2 k7)
            have st9 := st8.nosl.addSl ⟨true, w6.heap.size, w7.heap.size, .slice g7 2 k7, 2, two (tA c d 1 1) (tB c d 1 1)⟩ s8
            go_wp2
            have hne := HN.out
            have hA := HA.out
            have hB := HB.out
            have hk := HK.out
            have t0 : two (tA c d 1 1) (tB c d 1 1) 0 = c - d := by show tA c d 1 1 = _; unfold tA; omega
            have t1 : two (tA c d 1 1) (tB c d 1 1) 1 = c := by show tB c d 1 1 = _; unfold tB; omega
            go_roundg (cst (c - d) c)
            case rel => exact ⟨3, g7, k7, true, w6.heap.size, w7.heap.size, two (tA c d 1 1) (tB c d 1 1), Lib.hid (by rw [t0, t1]), by rw [t0, t1]; omega, Lib.hid (by rw [t0, t1]; exact turn_ne hne), Lib.hid (by rw [t0, t1]; exact (chA_turn hne).trans hA), Lib.hid (by rw [t0, t1]; exact (chB_turn hne).trans hB), .inr (by omega), st9⟩
            case measure => have := cst_turn hne hch; omega
        · have hch : isCh c d := ⟨by omega, by omega, by omega⟩
          have kb1 : decide (c < 1) = false := decide_eq_false k1
          have kb2 : decide (d < 0) = false := decide_eq_false k2
          have kb3 : decide (c ≤ d) = false := decide_eq_false k3
          go_wp2_with fail
          go_quiet (fail)
          have DD := Lib.hid KEEP.out.drew
          go_wp2_with fail
          go_region_held3 (fun w' => w'.cell? ⟨w.heap.size, 1, none⟩ = some (.slice (some ⟨g, off, none⟩) 2 cap) ∧ w'.cell? ⟨g, off, none⟩ = some (.int .i64 c) ∧ w'.cell? ⟨g, off + 1, none⟩ = some (.int .i64 d))
            (first | exact ⟨x1, e0, e1⟩ | exact ⟨cell_later b6 x1, cell_later b6 e0, cell_later b6 e1⟩ | exact ⟨cell_st2 (cell_later b6 x1) (by omega), cell_st2 (cell_later b6 e0) (by omega), cell_st2 (cell_later b6 e1) (by omega)⟩ | go_keep)
            (first
              | (go_at_call 91; refine (l09Of_any c d _ i0 i1).mono ?_; rintro e w6 ⟨g6, k6, rfl, s6, b6⟩; have st6 := (by first | exact KEEP.out.drew.drew.keep b6 | exact (KEEP.out.drewN _).drew.keep b6 | exact KEEP.out.drew.keep b6 | exact (KEEP.out.drewN _).keep b6 : St w w6 [(w.heap.size, [.int .i64 y, .slice (some ⟨g, off, none⟩) 2 cap]), (w.heap.size + 1, [.int .i64 0, .slice none 0 0])] [⟨o2, l2, h2, .slice (some ⟨g, off, none⟩) 2 cap, 2, f2⟩]); have z6 : wr.heap.size ≤ w6.heap.size := b6.size; have y0 := (st6.box 1 _ rfl).cell2; have yz := (st6.box 1 _ rfl).2.2; have ys := (st6.box 1 _ rfl).1; dsimp only at y0 yz ys; obtain ⟨y0, y1⟩ := y0; (try simp only [World.size_drew, World.size_drewN, World.size_alloc] at z6)))
          all_goals
            have e9 := ch_self hch
            have hA := HA.out
            have hB := HB.out
            rw [e9.1] at hA
            rw [e9.2] at hB
            have BB := st6.1
            go_wp2
            refine bodyPost_ret (v := .agg #[.int .i64 3, .slice g6 2 k6]) (by simp [results, Try.results60, go_sem, y0, y1]) rfl ?_
            refine ⟨_, _, rfl, ?_, by go_grown⟩
            rw [← hA, ← hB]
            exact ((s6.setOther (.inl (by show w.heap.size + 1 < _; simp; omega)) _).setOther (.inl (by show w.heap.size + 1 < _; simp; omega)) _).wide (by simp; omega) (by simp) (by simp)
theorem l09Primary_any (x : Int) (w : World) (hs : Sl o w lo hi v 2 f) (ha : -20000 ≤ f 0) (ha' : f 0 ≤ 20000) (hb : -20000 ≤ f 1) (hb' : f 1 ≤ 20000) (hn0 : ¬ (f 0 + f 1) % 3 = 0) :
    Calls Try.prog 65 #[.agg #[.int .i64 x, v]] w fun e w' => ∃ g k, e = .returned (.agg #[.int .i64 3, .slice g 2 k]) ∧ Sl true w' w.heap.size w'.heap.size (.slice g 2 k) 2 (two (prA (f 0) (f 1)) (prB (f 0) (f 1))) ∧ Below w.heap.size w w' := by
  obtain ⟨A, hA0⟩ : ∃ A, prA (f 0) (f 1) = A := ⟨_, rfl⟩
  obtain ⟨B, hB0⟩ : ∃ B, prB (f 0) (f 1) = B := ⟨_, rfl⟩
  rw [hA0, hB0]
  have HA0 := Lib.hid hA0
  have HB0 := Lib.hid hB0
  have HN0 := Lib.hid hn0
  clear hA0 hB0 hn0
  have hh := hs.size
  obtain ⟨av, cap, rfl⟩ := hs.shape
  have hm := hs.len
  unfold maxLen at hm
  have st := ((((St.start w).addSl ⟨o, lo, hi, .slice av 2 cap, 2, f⟩ hs).alloc (.cells #[.int .i64 x, .slice av 2 cap] 27)).addBox w.heap.size [.int .i64 x, .slice av 2 cap] (Box.made _ _ _ _ (fun j v h => by simpa using h)))
  replace st := (st.alloc (.cells #[.int .i64 0, .slice none 0 0] 27)).addBox _ [.int .i64 0, .slice none 0 0] (Box.made _ _ _ _ (fun j v h => by simpa using h))
  simp only [World.size_alloc] at st
  go_enter Try.func65, Try.ntmps65
  go_wp2_with fail
  go_loopg [] (pst (f 0) (f 1)) (fun k wr => ∃ (y : Int) (av : Option Addr) (cap : Nat) (o2 : Bool) (l2 h2 : Nat) (f2 : Nat → Int), Hid (pst (f2 0) (f2 1) = k) ∧ (-40000 ≤ f2 0 ∧ f2 0 ≤ 40000 ∧ -40000 ≤ f2 1 ∧ f2 1 ≤ 40000 ∧ -40000 ≤ f2 0 - f2 1 ∧ f2 0 - f2 1 ≤ 40000) ∧ Hid (¬ (f2 0 + f2 1) % 3 = 0) ∧ Hid (prA (f2 0) (f2 1) = A) ∧ Hid (prB (f2 0) (f2 1) = B) ∧ (h2 ≤ w.heap.size ∨ w.heap.size + 2 ≤ l2) ∧ St w wr [(w.heap.size, [.int .i64 y, .slice av 2 cap]), (w.heap.size + 1, [.int .i64 0, .slice none 0 0])] [⟨o2, l2, h2, .slice av 2 cap, 2, f2⟩])
  case atStart => exact ⟨x, av, cap, o, lo, hi, f, Lib.hid rfl, by omega, HN0, HA0, HB0, .inl hh, st.swp⟩
  case round =>
    clear st hs
    obtain ⟨y, av, cap, o2, l2, h2, f2, HK, hbd, HN, HA, HB, hl2, st⟩ := hrel
    have q0 := st.sl 0 ⟨o2, l2, h2, .slice av 2 cap, 2, f2⟩ rfl
    dsimp only at q0
    obtain ⟨g, off, rfl, _, hgi, hcap, e0, e1, i0, i1⟩ := q0.two
    have q0s := q0.size
    obtain ⟨c, hc⟩ : ∃ c, f2 0 = c := ⟨_, rfl⟩
    obtain ⟨d, hd⟩ : ∃ d, f2 1 = d := ⟨_, rfl⟩
    rw [hc] at e0 i0
    rw [hd] at e1 i1
    rw [hc, hd] at hbd HN HA HB HK
    have HCD := Lib.hid (show f2 0 = c ∧ f2 1 = d from ⟨hc, hd⟩)
    clear hc hd
    obtain ⟨x0, x1⟩ := (st.box 0 _ rfl).cell2
    have xz := (st.box 0 _ rfl).2.2
    have xs := (st.box 0 _ rfl).1
    dsimp only at x0 x1 xz xs
    obtain ⟨r0, r1⟩ := (st.box 1 _ rfl).cell2
    have rz := (st.box 1 _ rfl).2.2
    have rs := (st.box 1 _ rfl).1
    dsimp only at r0 r1 rz rs
    have KEEP := Lib.hid st
    have m1 := Int.tmod_lt_of_pos c (b := 3) (by omega)
    have m2 := Int.lt_tmod_of_pos c (b := 3) (by omega)
    have m3 : (c.tmod 3 + 3).tmod 3 = c % 3 := by rw [Int.tmod_eq_emod_of_nonneg (by omega), Int.add_emod_right]; have := Int.tmod_def c 3; omega
    have m4 : d.tmod 3 = 0 ↔ d % 3 = 0 := ⟨fun h => Int.emod_eq_zero_of_dvd (Int.dvd_of_tmod_eq_zero h), fun h => Int.tmod_eq_zero_of_dvd (Int.dvd_of_emod_eq_zero h)⟩
    have M3 := Lib.hid m3
    clear m3
    by_cases k1 : c % 3 = 2
    · by_cases k2 : d % 3 = 0
      · have hch : isPr c d := ⟨k1, k2⟩
        have n1 : (c.tmod 3 + 3).tmod 3 = 2 := M3.out.trans k1
        have n2 : d.tmod 3 = 0 := m4.2 k2
        clear m4 k1 k2
        go_wp2_with fail
        go_region_held3 (fun w' => w'.cell? ⟨w.heap.size, 1, none⟩ = some (.slice (some ⟨g, off, none⟩) 2 cap) ∧ w'.cell? ⟨g, off, none⟩ = some (.int .i64 c) ∧ w'.cell? ⟨g, off + 1, none⟩ = some (.int .i64 d))
          (first | exact ⟨x1, e0, e1⟩ | exact ⟨cell_later b6 x1, cell_later b6 e0, cell_later b6 e1⟩ | exact ⟨cell_st2 (cell_later b6 x1) (by omega), cell_st2 (cell_later b6 e0) (by omega), cell_st2 (cell_later b6 e1) (by omega)⟩ | go_keep)
          (first
            | (go_at_call 91; refine (l09Of_any c d _ i0 i1).mono ?_; rintro e w6 ⟨g6, k6, rfl, s6, b6⟩; have st6 := (by first | exact KEEP.out.drew.drew.keep b6 | exact (KEEP.out.drewN _).drew.keep b6 | exact KEEP.out.drew.keep b6 | exact (KEEP.out.drewN _).keep b6 : St w w6 [(w.heap.size, [.int .i64 y, .slice (some ⟨g, off, none⟩) 2 cap]), (w.heap.size + 1, [.int .i64 0, .slice none 0 0])] [⟨o2, l2, h2, .slice (some ⟨g, off, none⟩) 2 cap, 2, f2⟩]); have z6 : wr.heap.size ≤ w6.heap.size := b6.size; have y0 := (st6.box 1 _ rfl).cell2; have yz := (st6.box 1 _ rfl).2.2; have ys := (st6.box 1 _ rfl).1; dsimp only at y0 yz ys; obtain ⟨y0, y1⟩ := y0; (try simp only [World.size_drew, World.size_drewN, World.size_alloc] at z6)))
        all_goals
          have e9 := pr_self hch
          have hA := HA.out
          have hB := HB.out
          rw [e9.1] at hA
          rw [e9.2] at hB
          have BB := st6.1
          go_wp2
          refine bodyPost_ret (v := .agg #[.int .i64 3, .slice g6 2 k6]) (by simp [results, Try.results65, go_sem, y0, y1]) rfl ?_
          refine ⟨_, _, rfl, ?_, by go_grown⟩
          rw [← hA, ← hB]
          exact ((s6.setOther (.inl (by show w.heap.size + 1 < _; simp; omega)) _).setOther (.inl (by show w.heap.size + 1 < _; simp; omega)) _).wide (by simp; omega) (by simp) (by simp)
      · have hch : ¬ isPr c d := fun h => k2 h.2
        have n1 : (c.tmod 3 + 3).tmod 3 = 2 := M3.out.trans k1
        have n2 : ¬ d.tmod 3 = 0 := fun h => k2 (m4.1 h)
        clear m4 k1 k2
        go_wp2_with fail
        go_region_law (first
            | (go_simp; go_at_call 91; refine (l09Of_any 1 1 _ (by unfold inR; omega) (by unfold inR; omega)).mono ?_; rintro e w6 ⟨g6, k6, rfl, s6, b6⟩; have st6 := (by first | exact KEEP.out.drew.drew.keep b6 | exact (KEEP.out.drewN _).drew.keep b6 | exact KEEP.out.drew.keep b6 | exact (KEEP.out.drewN _).keep b6 : St w w6 [(w.heap.size, [.int .i64 y, .slice (some ⟨g, off, none⟩) 2 cap]), (w.heap.size + 1, [.int .i64 0, .slice none 0 0])] [⟨o2, l2, h2, .slice (some ⟨g, off, none⟩) 2 cap, 2, f2⟩]); have q6 := st6.sl 0 ⟨o2, l2, h2, .slice (some ⟨g, off, none⟩) 2 cap, 2, f2⟩ rfl; dsimp only at q6; obtain ⟨x0, x1⟩ := (st6.box 0 _ rfl).cell2; have xz := (st6.box 0 _ rfl).2.2; have xs := (st6.box 0 _ rfl).1; dsimp only at x0 x1 xz xs)
            | (go_simp; go_at_call 90; refine (l09Times_any y 3 _ q6 s6 (by have := HCD.out; omega) (by have := HCD.out; omega) (by have := HCD.out; omega) (by have := HCD.out; omega) (by decide) (by decide) (by decide) (by decide)).mono ?_; rintro e w7 ⟨g7, k7, rfl, s7, b7⟩; have st7 := st6.keep b7; have z6 : wr.heap.size ≤ w6.heap.size := b6.size; have z7 := b7.size; obtain ⟨x0, x1⟩ := (st7.box 0 _ rfl).cell2; have xz := (st7.box 0 _ rfl).2.2; have xs := (st7.box 0 _ rfl).1; dsimp only at x0 x1 xz xs))
        all_goals
          have st8 := st7.setHead (u0 := .int .i64 3) (u1 := .slice g7 2 k7) (Nat.le_refl _) (by intro q hq; simp only [List.mem_cons, List.not_mem_nil, or_false] at hq; rcases hq with rfl <;> dsimp only <;> omega) (by intro q hq; simp only [List.mem_cons, List.not_mem_nil, or_false] at hq; rcases hq with rfl; dsimp only; omega)
          try simp only [World.size_drew, World.size_drewN, World.size_alloc] at z6
          have hcd := HCD.out
          rw [hcd.1, hcd.2] at s7
          have s8 := (s7.setOther (p := ⟨w.heap.size, 0, none⟩) (.inl (by show w.heap.size < _; omega)) (.int .i64 3)).setOther (p := ⟨w.heap.size, 1, none⟩) (.inl (by show w.heap.size < _; omega)) (.slice g7 2 k7)
          have st9 := st8.nosl.addSl ⟨true, w6.heap.size, w7.heap.size, .slice g7 2 k7, 2, two (tA c d 1 1) (tB c d 1 1)⟩ s8
          go_wp2
          have hne := HN.out
          have hA := HA.out
          have hB := HB.out
          have hk := HK.out
          have t0 : two (tA c d 1 1) (tB c d 1 1) 0 = c - d := by show tA c d 1 1 = _; unfold tA; omega
          have t1 : two (tA c d 1 1) (tB c d 1 1) 1 = c := by show tB c d 1 1 = _; unfold tB; omega
          go_roundg (pst (c - d) c)
          case rel => exact ⟨3, g7, k7, true, w6.heap.size, w7.heap.size, two (tA c d 1 1) (tB c d 1 1), Lib.hid (by rw [t0, t1]), by rw [t0, t1]; omega, Lib.hid (by rw [t0, t1]; exact turn3 hne), Lib.hid (by rw [t0, t1]; exact (pr_turn hne).1.trans hA), Lib.hid (by rw [t0, t1]; exact (pr_turn hne).2.trans hB), .inr (by omega), st9⟩
          case measure => have := pst_turn hne hch; omega
    · have hch : ¬ isPr c d := fun h => k1 h.1
      have n1 : ¬ (c.tmod 3 + 3).tmod 3 = 2 := fun h => k1 (M3.out.symm.trans h)
      have n1d : ¬ c.tmod 3 % 3 = 2 := by
        have e : c.tmod 3 % 3 = c % 3 := by rw [Int.tmod_def, Int.sub_emod, Int.mul_emod_right, Int.sub_zero, Int.emod_emod]
        rw [e]; exact k1
      clear n1
      clear m4 k1
      go_wp2_with fail
      go_region_law (first
          | (go_simp; go_at_call 91; refine (l09Of_any 1 1 _ (by unfold inR; omega) (by unfold inR; omega)).mono ?_; rintro e w6 ⟨g6, k6, rfl, s6, b6⟩; have st6 := (by first | exact KEEP.out.drew.drew.keep b6 | exact (KEEP.out.drewN _).drew.keep b6 | exact KEEP.out.drew.keep b6 | exact (KEEP.out.drewN _).keep b6 : St w w6 [(w.heap.size, [.int .i64 y, .slice (some ⟨g, off, none⟩) 2 cap]), (w.heap.size + 1, [.int .i64 0, .slice none 0 0])] [⟨o2, l2, h2, .slice (some ⟨g, off, none⟩) 2 cap, 2, f2⟩]); have q6 := st6.sl 0 ⟨o2, l2, h2, .slice (some ⟨g, off, none⟩) 2 cap, 2, f2⟩ rfl; dsimp only at q6; obtain ⟨x0, x1⟩ := (st6.box 0 _ rfl).cell2; have xz := (st6.box 0 _ rfl).2.2; have xs := (st6.box 0 _ rfl).1; dsimp only at x0 x1 xz xs)
          | (go_simp; go_at_call 90; refine (l09Times_any y 3 _ q6 s6 (by have := HCD.out; omega) (by have := HCD.out; omega) (by have := HCD.out; omega) (by have := HCD.out; omega) (by decide) (by decide) (by decide) (by decide)).mono ?_; rintro e w7 ⟨g7, k7, rfl, s7, b7⟩; have st7 := st6.keep b7; have z6 : wr.heap.size ≤ w6.heap.size := b6.size; have z7 := b7.size; obtain ⟨x0, x1⟩ := (st7.box 0 _ rfl).cell2; have xz := (st7.box 0 _ rfl).2.2; have xs := (st7.box 0 _ rfl).1; dsimp only at x0 x1 xz xs))
      all_goals
        have st8 := st7.setHead (u0 := .int .i64 3) (u1 := .slice g7 2 k7) (Nat.le_refl _) (by intro q hq; simp only [List.mem_cons, List.not_mem_nil, or_false] at hq; rcases hq with rfl <;> dsimp only <;> omega) (by intro q hq; simp only [List.mem_cons, List.not_mem_nil, or_false] at hq; rcases hq with rfl; dsimp only; omega)
        try simp only [World.size_drew, World.size_drewN, World.size_alloc] at z6
        have hcd := HCD.out
        rw [hcd.1, hcd.2] at s7
        have s8 := (s7.setOther (p := ⟨w.heap.size, 0, none⟩) (.inl (by show w.heap.size < _; omega)) (.int .i64 3)).setOther (p := ⟨w.heap.size, 1, none⟩) (.inl (by show w.heap.size < _; omega)) (.slice g7 2 k7)
        have st9 := st8.nosl.addSl ⟨true, w6.heap.size, w7.heap.size, .slice g7 2 k7, 2, two (tA c d 1 1) (tB c d 1 1)⟩ s8
        go_wp2
        have hne := HN.out
        have hA := HA.out
        have hB := HB.out
        have hk := HK.out
        have t0 : two (tA c d 1 1) (tB c d 1 1) 0 = c - d := by show tA c d 1 1 = _; unfold tA; omega
        have t1 : two (tA c d 1 1) (tB c d 1 1) 1 = c := by show tB c d 1 1 = _; unfold tB; omega
        go_roundg (pst (c - d) c)
        case rel => exact ⟨3, g7, k7, true, w6.heap.size, w7.heap.size, two (tA c d 1 1) (tB c d 1 1), Lib.hid (by rw [t0, t1]), by rw [t0, t1]; omega, Lib.hid (by rw [t0, t1]; exact turn3 hne), Lib.hid (by rw [t0, t1]; exact (pr_turn hne).1.trans hA), Lib.hid (by rw [t0, t1]; exact (pr_turn hne).2.trans hB), .inr (by omega), st9⟩
        case measure => have := pst_turn hne hch; omega
end
end Go.Proofs.Ytfadlnbmpgbeaaa
