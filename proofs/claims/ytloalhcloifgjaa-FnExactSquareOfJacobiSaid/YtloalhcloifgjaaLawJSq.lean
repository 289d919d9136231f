/- SquareOfJacobi answers as its model, for every argument. No condition. -/
import Derived.Test.YtloalhcloifgjaaJSq
import Derived.Test.YtloalhcloifgjaaBox3
import Derived.Test.YtloalhcloifgjaaFail
import Derived.Test.YtloalhcloifgjaaCopy
import Derived.Deep.RegionHeld3
import Derived.Deep.DeepCutAuto
import Derived.ShutString
import Derived.ChangeOld
import Derived.Lib.SmallJoins
import Derived.Test.YtloalhcloifgjaaInit
import Derived.Conc.Holds
import Derived.Leaving
import Derived.Handed
namespace Go.Proofs.Ytloalhcloifgjaa
theorem leave_of_handed {a : Assume} {C : Checked} {os : Os} {f : FuncId} {r : Reach} {Pre : World → Array Value → Prop} {Post : World → Array Value → Value → World → Prop}
    (h : ReturnsInHanded a C os f r Pre Post) : ReturnsInLeavingWide a C os f r Pre Post := fun enter =>
  ReturnsInOpen.mono (fun _ _ _ x => ⟨x.2.1, onlyLeaving_of_quiet x.1, x.2.2⟩) (fun _ x => x) (h enter)

open Go.RowKit Go.ChangeShapes Go.Sort Go.WideShapes Go.ChangeAt
set_option linter.unusedVariables false
set_option linter.unusedSimpArgs false
namespace fnExactSquareOfJacobi
set_option maxRecDepth 100000 in
set_option maxHeartbeats 4000000 in
theorem walk_of (w : World) (x0 y0 z0 : Int) (x1 y1 z1 : Int) (R0 : Int) (N0 : Nat) (G0 : Nat → Int) (C1 : Int) (hN0 : N0 ≤ 1048576)
    (hS : ∀ (w : World), Calls Try.prog 30 #[.agg #[.int .i64 x0, .int .i64 y0, .int .i64 z0], .agg #[.int .i64 x1, .int .i64 y1, .int .i64 z1]] w fun e w' => ∃ a0' k0', e = .returned (.tuple #[.agg #[.int .i64 R0, .slice a0' N0 k0'], .int .i64 C1]) ∧ Sl true w' w.heap.size w'.heap.size (.slice a0' N0 k0') N0 G0 ∧ Below w.heap.size w w')
    (hI : ∀ (w : World), Calls Try.prog 31 #[.agg #[.int .i64 x0, .int .i64 y0, .int .i64 z0], .agg #[.int .i64 x1, .int .i64 y1, .int .i64 z1]] w fun e w' => ∃ a0' k0', e = .returned (.tuple #[.agg #[.int .i64 R0, .slice a0' N0 k0'], .int .i64 C1]) ∧ Sl true w' w.heap.size w'.heap.size (.slice a0' N0 k0') N0 G0 ∧ Below w.heap.size w w') :
    Calls Try.prog 6 #[.agg #[.int .i64 x0, .int .i64 y0, .int .i64 z0], .agg #[.int .i64 x1, .int .i64 y1, .int .i64 z1]] w fun e w' => e = .returned (.bool true) ∧ Below w.heap.size w w' := by
  have HS := Lib.hid hS; clear hS
  have HI := Lib.hid hI; clear hI
  have st0 := St.start w
  replace st0 := (st0.alloc (.cells #[.int .i64 x0, .int .i64 y0, .int .i64 z0] 23)).addBox _ [.int .i64 x0, .int .i64 y0, .int .i64 z0] (Box.made _ _ _ _ (fun j v h => by simpa using h))
  replace st0 := (st0.alloc (.cells #[.int .i64 x1, .int .i64 y1, .int .i64 z1] 23)).addBox _ [.int .i64 x1, .int .i64 y1, .int .i64 z1] (Box.made _ _ _ _ (fun j v h => by simpa using h))
  simp only [World.size_alloc] at st0
  go_enter Try.func6, Try.ntmps6
  have c_a0_0 := (st0.box 1 (w.heap.size, [.int .i64 x0, .int .i64 y0, .int .i64 z0]) rfl).2.1 0 _ rfl
  have c_a0_1 := (st0.box 1 (w.heap.size, [.int .i64 x0, .int .i64 y0, .int .i64 z0]) rfl).2.1 1 _ rfl
  have c_a0_2 := (st0.box 1 (w.heap.size, [.int .i64 x0, .int .i64 y0, .int .i64 z0]) rfl).2.1 2 _ rfl
  have c_a1_0 := (st0.box 0 (w.heap.size + 1, [.int .i64 x1, .int .i64 y1, .int .i64 z1]) rfl).2.1 0 _ rfl
  have c_a1_1 := (st0.box 0 (w.heap.size + 1, [.int .i64 x1, .int .i64 y1, .int .i64 z1]) rfl).2.1 1 _ rfl
  have c_a1_2 := (st0.box 0 (w.heap.size + 1, [.int .i64 x1, .int .i64 y1, .int .i64 z1]) rfl).2.1 2 _ rfl
  go_wp2_with fail
  go_cut [5, 6] (fun s0 s1 wx => ∃ bq loq hiq aq kq, s0 = .pointer (some ⟨bq, 0, none⟩) ∧ s1 = .int .i64 C1 ∧ Sl true wx loq hiq (.slice aq N0 kq) N0 G0 ∧ (bq < loq ∨ hiq ≤ bq) ∧ w.heap.size + 1 + 1 ≤ loq ∧ w.heap.size + 1 + 1 ≤ bq ∧ bq < wx.heap.size ∧ hiq ≤ wx.heap.size ∧ St w wx ((bq, [.int .i64 R0, .slice aq N0 kq]) :: [(w.heap.size + 1, [.int .i64 x1, .int .i64 y1, .int .i64 z1]), (w.heap.size, [.int .i64 x0, .int .i64 y0, .int .i64 z0])]) [])
  case first =>
    go_region_held3 (fun w' => w'.cell? ⟨w.heap.size, 0, none⟩ = some (.int .i64 x0) ∧ w'.cell? ⟨w.heap.size, 1, none⟩ = some (.int .i64 y0) ∧ w'.cell? ⟨w.heap.size, 2, none⟩ = some (.int .i64 z0) ∧ w'.cell? ⟨w.heap.size + 1, 0, none⟩ = some (.int .i64 x1) ∧ w'.cell? ⟨w.heap.size + 1, 1, none⟩ = some (.int .i64 y1) ∧ w'.cell? ⟨w.heap.size + 1, 2, none⟩ = some (.int .i64 z1))
      (first | exact ⟨c_a0_0, c_a0_1, c_a0_2, c_a1_0, c_a1_1, c_a1_2⟩ | (have q0 := (st8.box 1 (w.heap.size, [.int .i64 x0, .int .i64 y0, .int .i64 z0]) rfl).cell3; have q1 := (st8.box 0 (w.heap.size + 1, [.int .i64 x1, .int .i64 y1, .int .i64 z1]) rfl).cell3; with_reducible exact ⟨q0.1, q0.2.1, q0.2.2, q1.1, q1.2.1, q1.2.2⟩) | (have q0 := (st8.box 2 (w.heap.size, [.int .i64 x0, .int .i64 y0, .int .i64 z0]) rfl).cell3; have q1 := (st8.box 1 (w.heap.size + 1, [.int .i64 x1, .int .i64 y1, .int .i64 z1]) rfl).cell3; with_reducible exact ⟨q0.1, q0.2.1, q0.2.2, q1.1, q1.2.1, q1.2.2⟩) | (have q0 := ((st8.boxNew (.int .i64 0) (.slice none 0 0) 26).box 2 (w.heap.size, [.int .i64 x0, .int .i64 y0, .int .i64 z0]) rfl).cell3; have q1 := ((st8.boxNew (.int .i64 0) (.slice none 0 0) 26).box 1 (w.heap.size + 1, [.int .i64 x1, .int .i64 y1, .int .i64 z1]) rfl).cell3; with_reducible exact ⟨q0.1, q0.2.1, q0.2.2, q1.1, q1.2.1, q1.2.2⟩) | (have q0 := (st7.box 1 (w.heap.size, [.int .i64 x0, .int .i64 y0, .int .i64 z0]) rfl).cell3; have q1 := (st7.box 0 (w.heap.size + 1, [.int .i64 x1, .int .i64 y1, .int .i64 z1]) rfl).cell3; with_reducible exact ⟨q0.1, q0.2.1, q0.2.2, q1.1, q1.2.1, q1.2.2⟩) | (have q0 := (st7.box 2 (w.heap.size, [.int .i64 x0, .int .i64 y0, .int .i64 z0]) rfl).cell3; have q1 := (st7.box 1 (w.heap.size + 1, [.int .i64 x1, .int .i64 y1, .int .i64 z1]) rfl).cell3; with_reducible exact ⟨q0.1, q0.2.1, q0.2.2, q1.1, q1.2.1, q1.2.2⟩) | (have q0 := ((st7.boxNew (.int .i64 0) (.slice none 0 0) 26).box 2 (w.heap.size, [.int .i64 x0, .int .i64 y0, .int .i64 z0]) rfl).cell3; have q1 := ((st7.boxNew (.int .i64 0) (.slice none 0 0) 26).box 1 (w.heap.size + 1, [.int .i64 x1, .int .i64 y1, .int .i64 z1]) rfl).cell3; with_reducible exact ⟨q0.1, q0.2.1, q0.2.2, q1.1, q1.2.1, q1.2.2⟩) | (have q0 := (st6.box 1 (w.heap.size, [.int .i64 x0, .int .i64 y0, .int .i64 z0]) rfl).cell3; have q1 := (st6.box 0 (w.heap.size + 1, [.int .i64 x1, .int .i64 y1, .int .i64 z1]) rfl).cell3; with_reducible exact ⟨q0.1, q0.2.1, q0.2.2, q1.1, q1.2.1, q1.2.2⟩) | (have q0 := (st6.box 2 (w.heap.size, [.int .i64 x0, .int .i64 y0, .int .i64 z0]) rfl).cell3; have q1 := (st6.box 1 (w.heap.size + 1, [.int .i64 x1, .int .i64 y1, .int .i64 z1]) rfl).cell3; with_reducible exact ⟨q0.1, q0.2.1, q0.2.2, q1.1, q1.2.1, q1.2.2⟩) | (have q0 := ((st6.boxNew (.int .i64 0) (.slice none 0 0) 26).box 2 (w.heap.size, [.int .i64 x0, .int .i64 y0, .int .i64 z0]) rfl).cell3; have q1 := ((st6.boxNew (.int .i64 0) (.slice none 0 0) 26).box 1 (w.heap.size + 1, [.int .i64 x1, .int .i64 y1, .int .i64 z1]) rfl).cell3; with_reducible exact ⟨q0.1, q0.2.1, q0.2.2, q1.1, q1.2.1, q1.2.2⟩) | (have q0 := ((st8.boxNew (.int .i64 R0) (.slice a8 N0 k8) 26).box 2 (w.heap.size, [.int .i64 x0, .int .i64 y0, .int .i64 z0]) rfl).cell3; have q1 := ((st8.boxNew (.int .i64 R0) (.slice a8 N0 k8) 26).box 1 (w.heap.size + 1, [.int .i64 x1, .int .i64 y1, .int .i64 z1]) rfl).cell3; with_reducible exact ⟨q0.1, q0.2.1, q0.2.2, q1.1, q1.2.1, q1.2.2⟩) | (have q0 := ((st0.boxNew (.int .i64 0) (.slice none 0 0) 26).box 2 (w.heap.size, [.int .i64 x0, .int .i64 y0, .int .i64 z0]) rfl).cell3; have q1 := ((st0.boxNew (.int .i64 0) (.slice none 0 0) 26).box 1 (w.heap.size + 1, [.int .i64 x1, .int .i64 y1, .int .i64 z1]) rfl).cell3; with_reducible exact ⟨q0.1, q0.2.1, q0.2.2, q1.1, q1.2.1, q1.2.2⟩) | (have q0 := ((st0.boxNew (.int .i64 0) (.slice none 0 0) 26).drew.box 2 (w.heap.size, [.int .i64 x0, .int .i64 y0, .int .i64 z0]) rfl).cell3; have q1 := ((st0.boxNew (.int .i64 0) (.slice none 0 0) 26).drew.box 1 (w.heap.size + 1, [.int .i64 x1, .int .i64 y1, .int .i64 z1]) rfl).cell3; with_reducible exact ⟨q0.1, q0.2.1, q0.2.2, q1.1, q1.2.1, q1.2.2⟩) | (have q0 := (st0.drew.box 1 (w.heap.size, [.int .i64 x0, .int .i64 y0, .int .i64 z0]) rfl).cell3; have q1 := (st0.drew.box 0 (w.heap.size + 1, [.int .i64 x1, .int .i64 y1, .int .i64 z1]) rfl).cell3; with_reducible exact ⟨q0.1, q0.2.1, q0.2.2, q1.1, q1.2.1, q1.2.2⟩) | exact ⟨cell_set2 (st8.box 2 (w.heap.size, [.int .i64 x0, .int .i64 y0, .int .i64 z0]) rfl).cell3.1 (by omega), cell_set2 (st8.box 2 (w.heap.size, [.int .i64 x0, .int .i64 y0, .int .i64 z0]) rfl).cell3.2.1 (by omega), cell_set2 (st8.box 2 (w.heap.size, [.int .i64 x0, .int .i64 y0, .int .i64 z0]) rfl).cell3.2.2 (by omega), cell_set2 (st8.box 1 (w.heap.size + 1, [.int .i64 x1, .int .i64 y1, .int .i64 z1]) rfl).cell3.1 (by omega), cell_set2 (st8.box 1 (w.heap.size + 1, [.int .i64 x1, .int .i64 y1, .int .i64 z1]) rfl).cell3.2.1 (by omega), cell_set2 (st8.box 1 (w.heap.size + 1, [.int .i64 x1, .int .i64 y1, .int .i64 z1]) rfl).cell3.2.2 (by omega)⟩)
      (first
        | (go_at_call 17; have _g := b6; refine (toCharacter_any _ _ _ _).mono ?_; rintro e w7 ⟨rfl, b7⟩
           have hz7 := b7.size
           try simp only [World.size_drew, World.size_alloc] at hz7
           first | have st7 := st6.keep b7 | have st7 := (st6.boxNew (.int .i64 0) (.slice none 0 0) 26).keep b7)
        | (go_at_call 17; skip; refine (toCharacter_any _ _ _ _).mono ?_; rintro e w6 ⟨rfl, b6⟩
           have hz6 := b6.size
           try simp only [World.size_drew, World.size_alloc] at hz6
           first | have st6 := st0.drew.keep b6 | have st6 := (st0.boxNew (.int .i64 0) (.slice none 0 0) 26).drew.keep b6)
        | (go_at_call 30; have _h := b7; refine (HS.out _ ).mono ?_; rintro e w8 ⟨a8, k8, rfl, s8, b8⟩
           have hz8 := b8.size
           try simp only [World.size_drew, World.size_alloc] at hz8
           first | have st8 := st7.keep b8 | have st8 := (st7.boxNew (.int .i64 0) (.slice none 0 0) 26).keep b8
           try (obtain ⟨o0, o1⟩ := (st8.box 0 (_, [.int .i64 0, .slice none 0 0]) rfl).cell2
                have oz := (st8.box 0 (_, [.int .i64 0, .slice none 0 0]) rfl).2.2
                dsimp only at oz
                try simp only [World.size_alloc, World.size_drew] at o0 o1 oz)))
    all_goals
      go_wp2_with fail
      go_meet
      try simp only [World.size_drew, World.size_alloc] at s8
      first
        | exact ⟨w8.heap.size, _, _, a8, k8, rfl, rfl, s8.alloc _, .inr (Nat.le_refl _), by omega, by omega, by simp, by simp, st8.boxNew _ _ _⟩
        | (have stb := st8.boxSet (u0 := .int .i64 R0) (u1 := .slice a8 N0 k8) (by (try simp only [World.size_alloc, World.size_drew]); omega)
               (by (try simp only [World.size_alloc, World.size_drew]); intro b hb; simp only [List.mem_cons, List.not_mem_nil, or_false] at hb; rcases hb with rfl | rfl <;> dsimp only <;> omega)
               (by intro s hs'; cases hs')
           try simp only [World.size_alloc, World.size_drew] at stb
           exact ⟨_, _, _, a8, k8, rfl, rfl, (s8.setOther (.inl (by dsimp only; omega)) _).setOther (.inl (by dsimp only; omega)) _, .inl (by omega), by omega, by omega, by simp only [World.size_setCell]; omega, by simp, stb⟩)
  case rest =>
    obtain ⟨bq1, loq1, hiq1, aq1, kq1, rfl, rfl, hs_w1, hd_w1, hl_w1, hb_w1, hz_w1, hh_w1, st1⟩ := hcut
    try clear st0
    try clear c_a0_0
    try clear c_a0_1
    try clear c_a0_2
    try clear c_a1_0
    try clear c_a1_1
    try clear c_a1_2
    obtain ⟨w1, hw_w1⟩ : ∃ x : World, x = wc := ⟨_, rfl⟩
    subst hw_w1
    replace st1 := st1.addSl ⟨true, loq1, hiq1, .slice aq1 N0 kq1, N0, G0⟩ hs_w1
    have c_a0_0 := (st1.box 2 (w.heap.size, [.int .i64 x0, .int .i64 y0, .int .i64 z0]) rfl).2.1 0 _ rfl
    have c_a0_1 := (st1.box 2 (w.heap.size, [.int .i64 x0, .int .i64 y0, .int .i64 z0]) rfl).2.1 1 _ rfl
    have c_a0_2 := (st1.box 2 (w.heap.size, [.int .i64 x0, .int .i64 y0, .int .i64 z0]) rfl).2.1 2 _ rfl
    have c_a1_0 := (st1.box 1 (w.heap.size + 1, [.int .i64 x1, .int .i64 y1, .int .i64 z1]) rfl).2.1 0 _ rfl
    have c_a1_1 := (st1.box 1 (w.heap.size + 1, [.int .i64 x1, .int .i64 y1, .int .i64 z1]) rfl).2.1 1 _ rfl
    have c_a1_2 := (st1.box 1 (w.heap.size + 1, [.int .i64 x1, .int .i64 y1, .int .i64 z1]) rfl).2.1 2 _ rfl
    go_wp2_with fail
    go_cut [7, 8] (fun s0 s1 wx => ∃ bq loq hiq aq kq, s0 = .pointer (some ⟨bq, 0, none⟩) ∧ s1 = .int .i64 C1 ∧ Sl true wx loq hiq (.slice aq N0 kq) N0 G0 ∧ (bq < loq ∨ hiq ≤ bq) ∧ w1.heap.size ≤ loq ∧ w1.heap.size ≤ bq ∧ bq < wx.heap.size ∧ hiq ≤ wx.heap.size ∧ St w wx ((bq, [.int .i64 R0, .slice aq N0 kq]) :: [(bq1, [.int .i64 R0, .slice aq1 N0 kq1]), (w.heap.size + 1, [.int .i64 x1, .int .i64 y1, .int .i64 z1]), (w.heap.size, [.int .i64 x0, .int .i64 y0, .int .i64 z0])]) [⟨true, loq1, hiq1, .slice aq1 N0 kq1, N0, G0⟩])
    case first =>
      go_region_held3 (fun w' => w'.cell? ⟨w.heap.size, 0, none⟩ = some (.int .i64 x0) ∧ w'.cell? ⟨w.heap.size, 1, none⟩ = some (.int .i64 y0) ∧ w'.cell? ⟨w.heap.size, 2, none⟩ = some (.int .i64 z0) ∧ w'.cell? ⟨w.heap.size + 1, 0, none⟩ = some (.int .i64 x1) ∧ w'.cell? ⟨w.heap.size + 1, 1, none⟩ = some (.int .i64 y1) ∧ w'.cell? ⟨w.heap.size + 1, 2, none⟩ = some (.int .i64 z1))
        (first | exact ⟨c_a0_0, c_a0_1, c_a0_2, c_a1_0, c_a1_1, c_a1_2⟩ | (have q0 := (st8.box 2 (w.heap.size, [.int .i64 x0, .int .i64 y0, .int .i64 z0]) rfl).cell3; have q1 := (st8.box 1 (w.heap.size + 1, [.int .i64 x1, .int .i64 y1, .int .i64 z1]) rfl).cell3; with_reducible exact ⟨q0.1, q0.2.1, q0.2.2, q1.1, q1.2.1, q1.2.2⟩) | (have q0 := (st8.box 3 (w.heap.size, [.int .i64 x0, .int .i64 y0, .int .i64 z0]) rfl).cell3; have q1 := (st8.box 2 (w.heap.size + 1, [.int .i64 x1, .int .i64 y1, .int .i64 z1]) rfl).cell3; with_reducible exact ⟨q0.1, q0.2.1, q0.2.2, q1.1, q1.2.1, q1.2.2⟩) | (have q0 := ((st8.boxNew (.int .i64 0) (.slice none 0 0) 26).box 3 (w.heap.size, [.int .i64 x0, .int .i64 y0, .int .i64 z0]) rfl).cell3; have q1 := ((st8.boxNew (.int .i64 0) (.slice none 0 0) 26).box 2 (w.heap.size + 1, [.int .i64 x1, .int .i64 y1, .int .i64 z1]) rfl).cell3; with_reducible exact ⟨q0.1, q0.2.1, q0.2.2, q1.1, q1.2.1, q1.2.2⟩) | (have q0 := (st7.box 2 (w.heap.size, [.int .i64 x0, .int .i64 y0, .int .i64 z0]) rfl).cell3; have q1 := (st7.box 1 (w.heap.size + 1, [.int .i64 x1, .int .i64 y1, .int .i64 z1]) rfl).cell3; with_reducible exact ⟨q0.1, q0.2.1, q0.2.2, q1.1, q1.2.1, q1.2.2⟩) | (have q0 := (st7.box 3 (w.heap.size, [.int .i64 x0, .int .i64 y0, .int .i64 z0]) rfl).cell3; have q1 := (st7.box 2 (w.heap.size + 1, [.int .i64 x1, .int .i64 y1, .int .i64 z1]) rfl).cell3; with_reducible exact ⟨q0.1, q0.2.1, q0.2.2, q1.1, q1.2.1, q1.2.2⟩) | (have q0 := ((st7.boxNew (.int .i64 0) (.slice none 0 0) 26).box 3 (w.heap.size, [.int .i64 x0, .int .i64 y0, .int .i64 z0]) rfl).cell3; have q1 := ((st7.boxNew (.int .i64 0) (.slice none 0 0) 26).box 2 (w.heap.size + 1, [.int .i64 x1, .int .i64 y1, .int .i64 z1]) rfl).cell3; with_reducible exact ⟨q0.1, q0.2.1, q0.2.2, q1.1, q1.2.1, q1.2.2⟩) | (have q0 := (st6.box 2 (w.heap.size, [.int .i64 x0, .int .i64 y0, .int .i64 z0]) rfl).cell3; have q1 := (st6.box 1 (w.heap.size + 1, [.int .i64 x1, .int .i64 y1, .int .i64 z1]) rfl).cell3; with_reducible exact ⟨q0.1, q0.2.1, q0.2.2, q1.1, q1.2.1, q1.2.2⟩) | (have q0 := (st6.box 3 (w.heap.size, [.int .i64 x0, .int .i64 y0, .int .i64 z0]) rfl).cell3; have q1 := (st6.box 2 (w.heap.size + 1, [.int .i64 x1, .int .i64 y1, .int .i64 z1]) rfl).cell3; with_reducible exact ⟨q0.1, q0.2.1, q0.2.2, q1.1, q1.2.1, q1.2.2⟩) | (have q0 := ((st6.boxNew (.int .i64 0) (.slice none 0 0) 26).box 3 (w.heap.size, [.int .i64 x0, .int .i64 y0, .int .i64 z0]) rfl).cell3; have q1 := ((st6.boxNew (.int .i64 0) (.slice none 0 0) 26).box 2 (w.heap.size + 1, [.int .i64 x1, .int .i64 y1, .int .i64 z1]) rfl).cell3; with_reducible exact ⟨q0.1, q0.2.1, q0.2.2, q1.1, q1.2.1, q1.2.2⟩) | (have q0 := ((st8.boxNew (.int .i64 R0) (.slice a8 N0 k8) 26).box 3 (w.heap.size, [.int .i64 x0, .int .i64 y0, .int .i64 z0]) rfl).cell3; have q1 := ((st8.boxNew (.int .i64 R0) (.slice a8 N0 k8) 26).box 2 (w.heap.size + 1, [.int .i64 x1, .int .i64 y1, .int .i64 z1]) rfl).cell3; with_reducible exact ⟨q0.1, q0.2.1, q0.2.2, q1.1, q1.2.1, q1.2.2⟩) | (have q0 := ((st1.boxNew (.int .i64 0) (.slice none 0 0) 26).box 3 (w.heap.size, [.int .i64 x0, .int .i64 y0, .int .i64 z0]) rfl).cell3; have q1 := ((st1.boxNew (.int .i64 0) (.slice none 0 0) 26).box 2 (w.heap.size + 1, [.int .i64 x1, .int .i64 y1, .int .i64 z1]) rfl).cell3; with_reducible exact ⟨q0.1, q0.2.1, q0.2.2, q1.1, q1.2.1, q1.2.2⟩) | (have q0 := ((st1.boxNew (.int .i64 0) (.slice none 0 0) 26).drew.box 3 (w.heap.size, [.int .i64 x0, .int .i64 y0, .int .i64 z0]) rfl).cell3; have q1 := ((st1.boxNew (.int .i64 0) (.slice none 0 0) 26).drew.box 2 (w.heap.size + 1, [.int .i64 x1, .int .i64 y1, .int .i64 z1]) rfl).cell3; with_reducible exact ⟨q0.1, q0.2.1, q0.2.2, q1.1, q1.2.1, q1.2.2⟩) | (have q0 := (st1.drew.box 2 (w.heap.size, [.int .i64 x0, .int .i64 y0, .int .i64 z0]) rfl).cell3; have q1 := (st1.drew.box 1 (w.heap.size + 1, [.int .i64 x1, .int .i64 y1, .int .i64 z1]) rfl).cell3; with_reducible exact ⟨q0.1, q0.2.1, q0.2.2, q1.1, q1.2.1, q1.2.2⟩) | exact ⟨cell_set2 (st8.box 3 (w.heap.size, [.int .i64 x0, .int .i64 y0, .int .i64 z0]) rfl).cell3.1 (by omega), cell_set2 (st8.box 3 (w.heap.size, [.int .i64 x0, .int .i64 y0, .int .i64 z0]) rfl).cell3.2.1 (by omega), cell_set2 (st8.box 3 (w.heap.size, [.int .i64 x0, .int .i64 y0, .int .i64 z0]) rfl).cell3.2.2 (by omega), cell_set2 (st8.box 2 (w.heap.size + 1, [.int .i64 x1, .int .i64 y1, .int .i64 z1]) rfl).cell3.1 (by omega), cell_set2 (st8.box 2 (w.heap.size + 1, [.int .i64 x1, .int .i64 y1, .int .i64 z1]) rfl).cell3.2.1 (by omega), cell_set2 (st8.box 2 (w.heap.size + 1, [.int .i64 x1, .int .i64 y1, .int .i64 z1]) rfl).cell3.2.2 (by omega)⟩)
        (first
          | (go_at_call 17; have _g := b6; refine (toCharacter_any _ _ _ _).mono ?_; rintro e w7 ⟨rfl, b7⟩
             have hz7 := b7.size
             try simp only [World.size_drew, World.size_alloc] at hz7
             first | have st7 := st6.keep b7 | have st7 := (st6.boxNew (.int .i64 0) (.slice none 0 0) 26).keep b7)
          | (go_at_call 17; skip; refine (toCharacter_any _ _ _ _).mono ?_; rintro e w6 ⟨rfl, b6⟩
             have hz6 := b6.size
             try simp only [World.size_drew, World.size_alloc] at hz6
             first | have st6 := st1.drew.keep b6 | have st6 := (st1.boxNew (.int .i64 0) (.slice none 0 0) 26).drew.keep b6)
          | (go_at_call 31; have _h := b7; refine (HI.out _ ).mono ?_; rintro e w8 ⟨a8, k8, rfl, s8, b8⟩
             have hz8 := b8.size
             try simp only [World.size_drew, World.size_alloc] at hz8
             first | have st8 := st7.keep b8 | have st8 := (st7.boxNew (.int .i64 0) (.slice none 0 0) 26).keep b8
             try (obtain ⟨o0, o1⟩ := (st8.box 0 (_, [.int .i64 0, .slice none 0 0]) rfl).cell2
                  have oz := (st8.box 0 (_, [.int .i64 0, .slice none 0 0]) rfl).2.2
                  dsimp only at oz
                  try simp only [World.size_alloc, World.size_drew] at o0 o1 oz)))
      all_goals
        go_wp2_with fail
        go_meet
        try simp only [World.size_drew, World.size_alloc] at s8
        first
          | exact ⟨w8.heap.size, _, _, a8, k8, rfl, rfl, s8.alloc _, .inr (Nat.le_refl _), by omega, by omega, by simp, by simp, st8.boxNew _ _ _⟩
          | (have stb := st8.boxSet (u0 := .int .i64 R0) (u1 := .slice a8 N0 k8) (by (try simp only [World.size_alloc, World.size_drew]); omega)
                 (by (try simp only [World.size_alloc, World.size_drew]); intro b hb; simp only [List.mem_cons, List.not_mem_nil, or_false] at hb; rcases hb with rfl | rfl | rfl <;> dsimp only <;> omega)
                 (by (try simp only [World.size_alloc, World.size_drew]); intro s hs'; simp only [List.mem_cons, List.not_mem_nil, or_false] at hs'; rcases hs' with rfl <;> dsimp only <;> omega)
             try simp only [World.size_alloc, World.size_drew] at stb
             exact ⟨_, _, _, a8, k8, rfl, rfl, (s8.setOther (.inl (by dsimp only; omega)) _).setOther (.inl (by dsimp only; omega)) _, .inl (by omega), by omega, by omega, by simp only [World.size_setCell]; omega, by simp, stb⟩)
    case rest =>
      obtain ⟨bq2, loq2, hiq2, aq2, kq2, rfl, rfl, hs_w2, hd_w2, hl_w2, hb_w2, hz_w2, hh_w2, st2⟩ := hcut
      try clear st1
      try clear c_a0_0
      try clear c_a0_1
      try clear c_a0_2
      try clear c_a1_0
      try clear c_a1_1
      try clear c_a1_2
      obtain ⟨w2, hw_w2⟩ : ∃ x : World, x = wc := ⟨_, rfl⟩
      subst hw_w2
      replace st2 := st2.addSl ⟨true, loq2, hiq2, .slice aq2 N0 kq2, N0, G0⟩ hs_w2
      obtain ⟨c_g0_0, c_g0_1⟩ := (st2.box 0 (bq2, [.int .i64 R0, .slice aq2 N0 kq2]) rfl).cell2
      obtain ⟨c_w0_0, c_w0_1⟩ := (st2.box 1 (bq1, [.int .i64 R0, .slice aq1 N0 kq1]) rfl).cell2
      have q_x := st2.sl 0 ⟨true, loq2, hiq2, .slice aq2 N0 kq2, N0, G0⟩ rfl
      dsimp only at q_x
      have q_y := st2.sl 1 ⟨true, loq1, hiq1, .slice aq1 N0 kq1, N0, G0⟩ rfl
      dsimp only at q_y
      go_wp2_with fail
      refine (eqCyclo_yes _ _ q_x q_y (fun _ _ => rfl)).mono ?_
      rintro e w3 ⟨rfl, bw3⟩
      have st3 := st2.keep bw3
      have hz_w3 := bw3.size
      try simp only [World.size_alloc] at hz_w3
      clear st2 bw3 
      clear c_g0_0 c_g0_1 c_w0_0 c_w0_1 q_x q_y
      obtain ⟨c_g0_0, c_g0_1⟩ := (st3.box 0 (bq2, [.int .i64 R0, .slice aq2 N0 kq2]) rfl).cell2
      have q_x := st3.sl 0 ⟨true, loq2, hiq2, .slice aq2 N0 kq2, N0, G0⟩ rfl
      dsimp only at q_x
      go_wp2_with fail
      refine (markCyclo_any _ _ _ q_x (by omega) (by omega) (by omega)).mono ?_
      rintro e w4 ⟨rfl, sw4, fw4⟩
      have st4 := st3.writeTo fw4 (by omega) (by intro b hb; simp only [List.mem_cons, List.not_mem_nil, or_false] at hb; rcases hb with rfl | rfl | rfl | rfl <;> dsimp only <;> omega)
        [⟨true, loq1, hiq1, .slice aq1 N0 kq1, N0, G0⟩] (by intro s hs; simp only [List.mem_cons, List.not_mem_nil, or_false] at hs; rcases hs with rfl <;> refine ⟨by simp, ?_⟩ <;> dsimp only <;> omega)
      replace st4 := st4.addSl ⟨true, loq2, hiq2, .slice aq2 N0 kq2, N0, (fun j : Nat => 1 + (j : Int))⟩ sw4
      have hz_w4 := fw4.size
      try simp only [World.size_alloc] at hz_w4
      clear st3 sw4 fw4
      clear c_g0_0 c_g0_1 q_x
      obtain ⟨c_g0_0, c_g0_1⟩ := (st4.box 0 (bq2, [.int .i64 R0, .slice aq2 N0 kq2]) rfl).cell2
      have q_x := st4.sl 0 ⟨true, loq2, hiq2, .slice aq2 N0 kq2, N0, (fun j : Nat => 1 + (j : Int))⟩ rfl
      dsimp only at q_x
      go_wp2_with fail
      refine (heldCyclo_any _ _ _ q_x (by omega) (by omega) (by omega)).mono ?_
      rintro e w5 ⟨rfl, bw5⟩
      have st5 := st4.keep bw5
      have hz_w5 := bw5.size
      try simp only [World.size_alloc] at hz_w5
      clear st4 bw5 
      clear c_g0_0 c_g0_1 q_x
      have c_a0_0 := (st5.box 3 (w.heap.size, [.int .i64 x0, .int .i64 y0, .int .i64 z0]) rfl).2.1 0 _ rfl
      have c_a0_1 := (st5.box 3 (w.heap.size, [.int .i64 x0, .int .i64 y0, .int .i64 z0]) rfl).2.1 1 _ rfl
      have c_a0_2 := (st5.box 3 (w.heap.size, [.int .i64 x0, .int .i64 y0, .int .i64 z0]) rfl).2.1 2 _ rfl
      have c_a1_0 := (st5.box 2 (w.heap.size + 1, [.int .i64 x1, .int .i64 y1, .int .i64 z1]) rfl).2.1 0 _ rfl
      have c_a1_1 := (st5.box 2 (w.heap.size + 1, [.int .i64 x1, .int .i64 y1, .int .i64 z1]) rfl).2.1 1 _ rfl
      have c_a1_2 := (st5.box 2 (w.heap.size + 1, [.int .i64 x1, .int .i64 y1, .int .i64 z1]) rfl).2.1 2 _ rfl
      go_wp2_with fail
      go_cut [11, 12] (fun s0 s1 wx => ∃ bq loq hiq aq kq, s0 = .pointer (some ⟨bq, 0, none⟩) ∧ s1 = .int .i64 C1 ∧ Sl true wx loq hiq (.slice aq N0 kq) N0 G0 ∧ (bq < loq ∨ hiq ≤ bq) ∧ w5.heap.size ≤ loq ∧ w5.heap.size ≤ bq ∧ bq < wx.heap.size ∧ hiq ≤ wx.heap.size ∧ St w wx ((bq, [.int .i64 R0, .slice aq N0 kq]) :: [(bq2, [.int .i64 R0, .slice aq2 N0 kq2]), (bq1, [.int .i64 R0, .slice aq1 N0 kq1]), (w.heap.size + 1, [.int .i64 x1, .int .i64 y1, .int .i64 z1]), (w.heap.size, [.int .i64 x0, .int .i64 y0, .int .i64 z0])]) [⟨true, loq2, hiq2, .slice aq2 N0 kq2, N0, (fun j : Nat => 1 + (j : Int))⟩, ⟨true, loq1, hiq1, .slice aq1 N0 kq1, N0, G0⟩])
      case first =>
        go_region_held3 (fun w' => w'.cell? ⟨w.heap.size, 0, none⟩ = some (.int .i64 x0) ∧ w'.cell? ⟨w.heap.size, 1, none⟩ = some (.int .i64 y0) ∧ w'.cell? ⟨w.heap.size, 2, none⟩ = some (.int .i64 z0) ∧ w'.cell? ⟨w.heap.size + 1, 0, none⟩ = some (.int .i64 x1) ∧ w'.cell? ⟨w.heap.size + 1, 1, none⟩ = some (.int .i64 y1) ∧ w'.cell? ⟨w.heap.size + 1, 2, none⟩ = some (.int .i64 z1))
          (first | exact ⟨c_a0_0, c_a0_1, c_a0_2, c_a1_0, c_a1_1, c_a1_2⟩ | (have q0 := (st8.box 3 (w.heap.size, [.int .i64 x0, .int .i64 y0, .int .i64 z0]) rfl).cell3; have q1 := (st8.box 2 (w.heap.size + 1, [.int .i64 x1, .int .i64 y1, .int .i64 z1]) rfl).cell3; with_reducible exact ⟨q0.1, q0.2.1, q0.2.2, q1.1, q1.2.1, q1.2.2⟩) | (have q0 := (st8.box 4 (w.heap.size, [.int .i64 x0, .int .i64 y0, .int .i64 z0]) rfl).cell3; have q1 := (st8.box 3 (w.heap.size + 1, [.int .i64 x1, .int .i64 y1, .int .i64 z1]) rfl).cell3; with_reducible exact ⟨q0.1, q0.2.1, q0.2.2, q1.1, q1.2.1, q1.2.2⟩) | (have q0 := ((st8.boxNew (.int .i64 0) (.slice none 0 0) 26).box 4 (w.heap.size, [.int .i64 x0, .int .i64 y0, .int .i64 z0]) rfl).cell3; have q1 := ((st8.boxNew (.int .i64 0) (.slice none 0 0) 26).box 3 (w.heap.size + 1, [.int .i64 x1, .int .i64 y1, .int .i64 z1]) rfl).cell3; with_reducible exact ⟨q0.1, q0.2.1, q0.2.2, q1.1, q1.2.1, q1.2.2⟩) | (have q0 := (st7.box 3 (w.heap.size, [.int .i64 x0, .int .i64 y0, .int .i64 z0]) rfl).cell3; have q1 := (st7.box 2 (w.heap.size + 1, [.int .i64 x1, .int .i64 y1, .int .i64 z1]) rfl).cell3; with_reducible exact ⟨q0.1, q0.2.1, q0.2.2, q1.1, q1.2.1, q1.2.2⟩) | (have q0 := (st7.box 4 (w.heap.size, [.int .i64 x0, .int .i64 y0, .int .i64 z0]) rfl).cell3; have q1 := (st7.box 3 (w.heap.size + 1, [.int .i64 x1, .int .i64 y1, .int .i64 z1]) rfl).cell3; with_reducible exact ⟨q0.1, q0.2.1, q0.2.2, q1.1, q1.2.1, q1.2.2⟩) | (have q0 := ((st7.boxNew (.int .i64 0) (.slice none 0 0) 26).box 4 (w.heap.size, [.int .i64 x0, .int .i64 y0, .int .i64 z0]) rfl).cell3; have q1 := ((st7.boxNew (.int .i64 0) (.slice none 0 0) 26).box 3 (w.heap.size + 1, [.int .i64 x1, .int .i64 y1, .int .i64 z1]) rfl).cell3; with_reducible exact ⟨q0.1, q0.2.1, q0.2.2, q1.1, q1.2.1, q1.2.2⟩) | (have q0 := (st6.box 3 (w.heap.size, [.int .i64 x0, .int .i64 y0, .int .i64 z0]) rfl).cell3; have q1 := (st6.box 2 (w.heap.size + 1, [.int .i64 x1, .int .i64 y1, .int .i64 z1]) rfl).cell3; with_reducible exact ⟨q0.1, q0.2.1, q0.2.2, q1.1, q1.2.1, q1.2.2⟩) | (have q0 := (st6.box 4 (w.heap.size, [.int .i64 x0, .int .i64 y0, .int .i64 z0]) rfl).cell3; have q1 := (st6.box 3 (w.heap.size + 1, [.int .i64 x1, .int .i64 y1, .int .i64 z1]) rfl).cell3; with_reducible exact ⟨q0.1, q0.2.1, q0.2.2, q1.1, q1.2.1, q1.2.2⟩) | (have q0 := ((st6.boxNew (.int .i64 0) (.slice none 0 0) 26).box 4 (w.heap.size, [.int .i64 x0, .int .i64 y0, .int .i64 z0]) rfl).cell3; have q1 := ((st6.boxNew (.int .i64 0) (.slice none 0 0) 26).box 3 (w.heap.size + 1, [.int .i64 x1, .int .i64 y1, .int .i64 z1]) rfl).cell3; with_reducible exact ⟨q0.1, q0.2.1, q0.2.2, q1.1, q1.2.1, q1.2.2⟩) | (have q0 := ((st8.boxNew (.int .i64 R0) (.slice a8 N0 k8) 26).box 4 (w.heap.size, [.int .i64 x0, .int .i64 y0, .int .i64 z0]) rfl).cell3; have q1 := ((st8.boxNew (.int .i64 R0) (.slice a8 N0 k8) 26).box 3 (w.heap.size + 1, [.int .i64 x1, .int .i64 y1, .int .i64 z1]) rfl).cell3; with_reducible exact ⟨q0.1, q0.2.1, q0.2.2, q1.1, q1.2.1, q1.2.2⟩) | (have q0 := ((st5.boxNew (.int .i64 0) (.slice none 0 0) 26).box 4 (w.heap.size, [.int .i64 x0, .int .i64 y0, .int .i64 z0]) rfl).cell3; have q1 := ((st5.boxNew (.int .i64 0) (.slice none 0 0) 26).box 3 (w.heap.size + 1, [.int .i64 x1, .int .i64 y1, .int .i64 z1]) rfl).cell3; with_reducible exact ⟨q0.1, q0.2.1, q0.2.2, q1.1, q1.2.1, q1.2.2⟩) | (have q0 := ((st5.boxNew (.int .i64 0) (.slice none 0 0) 26).drew.box 4 (w.heap.size, [.int .i64 x0, .int .i64 y0, .int .i64 z0]) rfl).cell3; have q1 := ((st5.boxNew (.int .i64 0) (.slice none 0 0) 26).drew.box 3 (w.heap.size + 1, [.int .i64 x1, .int .i64 y1, .int .i64 z1]) rfl).cell3; with_reducible exact ⟨q0.1, q0.2.1, q0.2.2, q1.1, q1.2.1, q1.2.2⟩) | (have q0 := (st5.drew.box 3 (w.heap.size, [.int .i64 x0, .int .i64 y0, .int .i64 z0]) rfl).cell3; have q1 := (st5.drew.box 2 (w.heap.size + 1, [.int .i64 x1, .int .i64 y1, .int .i64 z1]) rfl).cell3; with_reducible exact ⟨q0.1, q0.2.1, q0.2.2, q1.1, q1.2.1, q1.2.2⟩) | exact ⟨cell_set2 (st8.box 4 (w.heap.size, [.int .i64 x0, .int .i64 y0, .int .i64 z0]) rfl).cell3.1 (by omega), cell_set2 (st8.box 4 (w.heap.size, [.int .i64 x0, .int .i64 y0, .int .i64 z0]) rfl).cell3.2.1 (by omega), cell_set2 (st8.box 4 (w.heap.size, [.int .i64 x0, .int .i64 y0, .int .i64 z0]) rfl).cell3.2.2 (by omega), cell_set2 (st8.box 3 (w.heap.size + 1, [.int .i64 x1, .int .i64 y1, .int .i64 z1]) rfl).cell3.1 (by omega), cell_set2 (st8.box 3 (w.heap.size + 1, [.int .i64 x1, .int .i64 y1, .int .i64 z1]) rfl).cell3.2.1 (by omega), cell_set2 (st8.box 3 (w.heap.size + 1, [.int .i64 x1, .int .i64 y1, .int .i64 z1]) rfl).cell3.2.2 (by omega)⟩)
          (first
            | (go_at_call 17; have _g := b6; refine (toCharacter_any _ _ _ _).mono ?_; rintro e w7 ⟨rfl, b7⟩
               have hz7 := b7.size
               try simp only [World.size_drew, World.size_alloc] at hz7
               first | have st7 := st6.keep b7 | have st7 := (st6.boxNew (.int .i64 0) (.slice none 0 0) 26).keep b7)
            | (go_at_call 17; skip; refine (toCharacter_any _ _ _ _).mono ?_; rintro e w6 ⟨rfl, b6⟩
               have hz6 := b6.size
               try simp only [World.size_drew, World.size_alloc] at hz6
               first | have st6 := st5.drew.keep b6 | have st6 := (st5.boxNew (.int .i64 0) (.slice none 0 0) 26).drew.keep b6)
            | (go_at_call 31; have _h := b7; refine (HI.out _ ).mono ?_; rintro e w8 ⟨a8, k8, rfl, s8, b8⟩
               have hz8 := b8.size
               try simp only [World.size_drew, World.size_alloc] at hz8
               first | have st8 := st7.keep b8 | have st8 := (st7.boxNew (.int .i64 0) (.slice none 0 0) 26).keep b8
               try (obtain ⟨o0, o1⟩ := (st8.box 0 (_, [.int .i64 0, .slice none 0 0]) rfl).cell2
                    have oz := (st8.box 0 (_, [.int .i64 0, .slice none 0 0]) rfl).2.2
                    dsimp only at oz
                    try simp only [World.size_alloc, World.size_drew] at o0 o1 oz)))
        all_goals
          go_wp2_with fail
          go_meet
          try simp only [World.size_drew, World.size_alloc] at s8
          first
            | exact ⟨w8.heap.size, _, _, a8, k8, rfl, rfl, s8.alloc _, .inr (Nat.le_refl _), by omega, by omega, by simp, by simp, st8.boxNew _ _ _⟩
            | (have stb := st8.boxSet (u0 := .int .i64 R0) (u1 := .slice a8 N0 k8) (by (try simp only [World.size_alloc, World.size_drew]); omega)
                   (by (try simp only [World.size_alloc, World.size_drew]); intro b hb; simp only [List.mem_cons, List.not_mem_nil, or_false] at hb; rcases hb with rfl | rfl | rfl | rfl <;> dsimp only <;> omega)
                   (by (try simp only [World.size_alloc, World.size_drew]); intro s hs'; simp only [List.mem_cons, List.not_mem_nil, or_false] at hs'; rcases hs' with rfl | rfl <;> dsimp only <;> omega)
               try simp only [World.size_alloc, World.size_drew] at stb
               exact ⟨_, _, _, a8, k8, rfl, rfl, (s8.setOther (.inl (by dsimp only; omega)) _).setOther (.inl (by dsimp only; omega)) _, .inl (by omega), by omega, by omega, by simp only [World.size_setCell]; omega, by simp, stb⟩)
      case rest =>
        obtain ⟨bq3, loq3, hiq3, aq3, kq3, rfl, rfl, hs_w6, hd_w6, hl_w6, hb_w6, hz_w6, hh_w6, st6⟩ := hcut
        try clear st5
        try clear c_a0_0
        try clear c_a0_1
        try clear c_a0_2
        try clear c_a1_0
        try clear c_a1_1
        try clear c_a1_2
        obtain ⟨w6, hw_w6⟩ : ∃ x : World, x = wc := ⟨_, rfl⟩
        subst hw_w6
        replace st6 := st6.addSl ⟨true, loq3, hiq3, .slice aq3 N0 kq3, N0, G0⟩ hs_w6
        obtain ⟨c_h0_0, c_h0_1⟩ := (st6.box 0 (bq3, [.int .i64 R0, .slice aq3 N0 kq3]) rfl).cell2
        obtain ⟨c_w0_0, c_w0_1⟩ := (st6.box 2 (bq1, [.int .i64 R0, .slice aq1 N0 kq1]) rfl).cell2
        have q_x := st6.sl 0 ⟨true, loq3, hiq3, .slice aq3 N0 kq3, N0, G0⟩ rfl
        dsimp only at q_x
        have q_y := st6.sl 2 ⟨true, loq1, hiq1, .slice aq1 N0 kq1, N0, G0⟩ rfl
        dsimp only at q_y
        go_wp2_with fail
        refine (eqCyclo_yes _ _ q_x q_y (fun _ _ => rfl)).mono ?_
        rintro e w7 ⟨rfl, bw7⟩
        have st7 := st6.keep bw7
        have hz_w7 := bw7.size
        try simp only [World.size_alloc] at hz_w7
        clear st6 bw7 
        clear c_h0_0 c_h0_1 c_w0_0 c_w0_1 q_x q_y
        obtain ⟨c_g0_0, c_g0_1⟩ := (st7.box 1 (bq2, [.int .i64 R0, .slice aq2 N0 kq2]) rfl).cell2
        have q_x := st7.sl 1 ⟨true, loq2, hiq2, .slice aq2 N0 kq2, N0, (fun j : Nat => 1 + (j : Int))⟩ rfl
        dsimp only at q_x
        go_wp2_with fail
        refine (heldCyclo_any _ _ _ q_x (by omega) (by omega) (by omega)).mono ?_
        rintro e w8 ⟨rfl, bw8⟩
        have st8 := st7.keep bw8
        have hz_w8 := bw8.size
        try simp only [World.size_alloc] at hz_w8
        clear st7 bw8 
        clear c_g0_0 c_g0_1 q_x
        go_wp2_with fail
        go_ret
        exact ⟨rfl, st8.1⟩


theorem walk (w : World) (x0 y0 z0 : Int) (_hx0 : inR x0) (_hy0 : inR y0) (_hz0 : inR z0) (x1 y1 z1 : Int) (_hx1 : inR x1) (_hy1 : inR y1) (_hz1 : inR z1) :
    Calls Try.prog 6 #[.agg #[.int .i64 x0, .int .i64 y0, .int .i64 z0], .agg #[.int .i64 x1, .int .i64 y1, .int .i64 z1]] w fun e w' => e = .returned (.bool true) ∧ Below w.heap.size w w' := by
  obtain ⟨c, hc⟩ := pcC_ex x0 y0 z0 x1 y1 z1
  by_cases h0 : c ≠ 0
  · exact walk_of w x0 y0 z0 x1 y1 z1 0 0 (fun _ => 0) c (by omega) (fun w => fail_form (SquareOfJacobi_spec_bad _ _ _ _ _ _ c hc h0 w)) (fun w => fail_form (SquareOfJacobi_impl_bad _ _ _ _ _ _ c hc h0 w))
  · have h0' : c = 0 := by omega
    rcases hc with ⟨e, _⟩ | ⟨e, _⟩ | ⟨_, ha, hb, rfl, rfl⟩
    · omega
    · omega
    · obtain ⟨P, N, K, rfl, rfl, rfl, h1, h2, h3, h4, h5⟩ := ha.nat
      obtain ⟨L, rfl⟩ := Int.eq_ofNat_of_zero_le hb.2.2.1
      have hl : L < N := by have := hb.2.2.2; omega
      exact walk_of w P N K P N L N (phiN N) (jacS P N K L) 0 (by have := phi_le12 N (by omega) (by omega); omega) (fun w => SquareOfJacobi_spec_ok P N K L h1 h2 h3 h4 h5 hl w) (fun w => SquareOfJacobi_impl_ok P N K L h1 h2 h3 h4 h5 hl w)

theorem own : ownKnob Try.prog.godebug = none := by kernel_rfl
theorem laidOut : laidOutB Try.prog = true := by kernel_rfl
set_option maxRecDepth 100000 in
theorem lifted (os : Os) (started : os.Started) (H : Type) (enc : TypeId × Value → H) :
    ReturnsInHanded {} Try.checked os 6 .any (Rows.fnExactSquareOfJacobiSpec.pre6 enc Try.prog Try.f6 Rows.fnExactSquareOfJacobiRow.domain false) (Rows.fnExactSquareOfJacobiSpec.post enc Try.prog Try.f6 false true false false) := by
  refine returnsInHanded_of_change (C := Try.checked) own started (by kernel_rfl) Try.func6
    (ChangeSpec.witness6 (enc := enc) (C := Try.checked) false ⟨#[], #[.agg #[.int .i64 0, .int .i64 0, .int .i64 0], .agg #[.int .i64 0, .int .i64 0, .int .i64 0]], []⟩ 8 (by kernel_rfl) (by kernel_rfl) (by kernel_rfl) (by kernel_rfl)) ?_
  intro W base args ds gs before hval0 hW hcnd _
  have hval : ∀ (j : Nat) t v, Try.f6.params[j]? = some t → args[j]? = some v → Value.okWide Try.prog W .any base t v := hval0
  have hW' := hW
  obtain ⟨p, q, hA0, hV, rfl, hfz, hnd⟩ := hW
  have hA : DataW.TrodAll enc Try.prog W 0 (fun _ => true) true Try.f6.params.toList args.toList ds p := hA0
  rw [Try.params6] at hA hval
  obtain ⟨v0, vs0, d0, ds0, p0, q0, hargs, rfl, rfl, h0, r0⟩ := trodAll_cons hA
  obtain ⟨v1, vs1, d1, ds1, p1, q1, rfl, rfl, rfl, h1, r1⟩ := trodAll_cons r0
  obtain ⟨rfl, rfl, rfl⟩ := trodAll_nil r1
  obtain rfl : args = #[v0, v1] := by cases args; simp_all
  obtain ⟨rfl, rfl⟩ := trodVars_none hV
  have k0 := h0
  have lt0 : ∀ x ∈ p0, x.block < W.heap.size := by obtain ⟨m, hm⟩ := k0; exact DataW.trod_lt m _ _ _ hm
  obtain ⟨x0, y0, z0, rfl, wx0, wy0, wz0⟩ : ∃ x y z, v0 = .agg #[.int .i64 x, .int .i64 y, .int .i64 z] ∧ inR x ∧ inR y ∧ inR z := by
    obtain ⟨c0, c1, c2, y0, y1, y2, m, rfl, _, _, hy0, hy1, hy2⟩ := Joins.open_agg3 Try.underlying23 (by kernel_rfl) (by kernel_rfl) (hval 0 23 v0 rfl rfl) h0
    obtain ⟨x, e0, _, wx⟩ := DataW.trod_int Try.underlying2 hy0
    obtain ⟨y, e1, _, wy⟩ := DataW.trod_int Try.underlying2 hy1
    obtain ⟨z, e2, _, wz⟩ := DataW.trod_int Try.underlying2 hy2
    simp at e0 e1 e2
    exact ⟨x, y, z, by rw [e0, e1, e2], inR_wf wx, inR_wf wy, inR_wf wz⟩
  have k1 := h1
  have lt1 : ∀ x ∈ p1, x.block < W.heap.size := by obtain ⟨m, hm⟩ := k1; exact DataW.trod_lt m _ _ _ hm
  obtain ⟨x1, y1, z1, rfl, wx1, wy1, wz1⟩ : ∃ x y z, v1 = .agg #[.int .i64 x, .int .i64 y, .int .i64 z] ∧ inR x ∧ inR y ∧ inR z := by
    obtain ⟨c0, c1, c2, y0, y1, y2, m, rfl, _, _, hy0, hy1, hy2⟩ := Joins.open_agg3 Try.underlying23 (by kernel_rfl) (by kernel_rfl) (hval 1 23 v1 rfl rfl) h1
    obtain ⟨x, e0, _, wx⟩ := DataW.trod_int Try.underlying2 hy0
    obtain ⟨y, e1, _, wy⟩ := DataW.trod_int Try.underlying2 hy1
    obtain ⟨z, e2, _, wz⟩ := DataW.trod_int Try.underlying2 hy2
    simp at e0 e1 e2
    exact ⟨x, y, z, by rw [e0, e1, e2], inR_wf wx, inR_wf wy, inR_wf wz⟩
  clear hA0 hval0
  refine (walk W x0 y0 z0 wx0 wy0 wz0 x1 y1 z1 wx1 wy1 wz1).mono fun e W' ⟨he, bel⟩ => ?_
  subst he
  exact ⟨_, rfl, _, _, _, [], _, [], hW', trodAll_mk1 (shut_bool Try.underlying4 _), (trodAll_cons_mk (Below.trod laidOut (by kernel_rfl) (of_decide_eq_true (by kernel_rfl)) k0 bel lt0) (trodAll_cons_mk (Below.trod laidOut (by kernel_rfl) (of_decide_eq_true (by kernel_rfl)) k1 bel lt1) trodAll_mk0)), rfl, bel.frame _, fun h => by cases h⟩

theorem over : Rows.fnExactSquareOfJacobiRow.holds Try.pinned (OpenSpec.ofChange Rows.fnExactSquareOfJacobiSpec) :=
  OpenClaim.holds_of_wide_leaving 6 Try.f6 rfl rfl rfl rfl rfl rfl rfl ⟨rfl, rfl, rfl, rfl, rfl⟩ rfl rfl rfl rfl rfl (by kernel_rfl) Try.func6 (by unfold joinedFacts; exact (and_tt (and_tt (and_tt (and_tt (and_tt (and_tt (and_tt (and_tt (and_tt (and_tt (and_tt (and_tt (and_tt (and_tt (and_tt (and_tt (and_tt (and_tt (and_tt (and_tt (and_tt (and_tt (and_tt (and_tt (and_tt (and_tt (and_tt (and_tt (and_tt (and_tt (and_tt (by kernel_rfl) (by kernel_rfl)) (by kernel_rfl)) (by kernel_rfl)) (by kernel_rfl)) (by kernel_rfl)) (by kernel_rfl)) (by kernel_rfl)) (by kernel_rfl)) (by kernel_rfl)) (by kernel_rfl)) (by kernel_rfl)) (by kernel_rfl)) (by kernel_rfl)) (by kernel_rfl)) (by kernel_rfl)) (by kernel_rfl)) (by kernel_rfl)) (by kernel_rfl)) (by kernel_rfl)) (by kernel_rfl)) (by kernel_rfl)) (by kernel_rfl)) (by kernel_rfl)) (by kernel_rfl)) init_enter) (tt_lifts init_lifts rfl)) (tt_make init_make rfl)) (by kernel_rfl)) (by kernel_rfl)) (by kernel_rfl)) (by kernel_rfl)))
    (of_decide_eq_true (by kernel_rfl)) (by unfold Func.isWrapper; first | (rw [if_pos (by decide +kernel)]; kernel_rfl) | (rw [if_neg (by decide +kernel)]; exact ⟨rfl, rfl⟩))
    (fun os started H enc _ => leave_of_handed (lifted os started H enc))

theorem proved : Rows.FnExactSquareOfJacobiSaid := over
#print axioms proved
end fnExactSquareOfJacobi
end Go.Proofs.Ytloalhcloifgjaa
