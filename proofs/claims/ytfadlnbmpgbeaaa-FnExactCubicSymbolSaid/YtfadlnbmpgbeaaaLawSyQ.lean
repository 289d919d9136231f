/- CubicSymbol answers as its model, for every argument. No condition. -/
import Derived.Test.YtfadlnbmpgbeaaaEsJ
import Derived.Test.YtfadlnbmpgbeaaaPlus
import Derived.Test.YtfadlnbmpgbeaaaCopy
import Derived.Deep.RegionHeld3
import Derived.Deep.DeepCutAuto
import Derived.ShutString
import Derived.ChangeOld
import Derived.Lib.SmallJoins
import Derived.Test.YtfadlnbmpgbeaaaInit
namespace Go.Proofs.Ytfadlnbmpgbeaaa
open Go.RowKit Go.ChangeShapes Go.Sort Go.WideShapes Go.ChangeAt
set_option linter.unusedVariables false
set_option linter.unusedSimpArgs false
namespace fnExactCubicSymbol
set_option maxRecDepth 100000 in
set_option maxHeartbeats 4000000 in
theorem walk_of (w : World) (x0 : Int) (n0 : Nat) (f0 : Nat → Int) (x1 : Int) (n1 : Nat) (f1 : Nat → Int) {lo0 hi0 : Nat} {u0 : Value} (hs0 : Sl false w lo0 hi0 u0 n0 f0) {lo1 hi1 : Nat} {u1 : Value} (hs1 : Sl false w lo1 hi1 u1 n1 f1) (C0 : Int) (C1 : Int) (hn0 : n0 ≤ 1048576) (hn1 : n1 ≤ 1048576) (hnn : n0 + n1 ≤ 1048576)
    (hS : ∀ (w : World) (o0 : Bool) (l0 h0 : Nat) (v0 : Value) (_ : Sl o0 w l0 h0 v0 n0 f0) (o1 : Bool) (l1 h1 : Nat) (v1 : Value) (_ : Sl o1 w l1 h1 v1 n1 f1), Calls Try.prog 42 #[.agg #[.int .i64 x0, v0], .agg #[.int .i64 x1, v1]] w fun e w' => e = .returned (.tuple #[.int .i64 C0, .int .i64 C1]) ∧ Below w.heap.size w w')
    (hI : ∀ (w : World) (o0 : Bool) (l0 h0 : Nat) (v0 : Value) (_ : Sl o0 w l0 h0 v0 n0 f0) (o1 : Bool) (l1 h1 : Nat) (v1 : Value) (_ : Sl o1 w l1 h1 v1 n1 f1), Calls Try.prog 43 #[.agg #[.int .i64 x0, v0], .agg #[.int .i64 x1, v1]] w fun e w' => e = .returned (.tuple #[.int .i64 C0, .int .i64 C1]) ∧ Below w.heap.size w w') :
    Calls Try.prog 11 #[.agg #[.int .i64 x0, u0], .agg #[.int .i64 x1, u1]] w fun e w' => e = .returned (.bool true) ∧ Below w.heap.size w w' := by
  obtain ⟨p0, q0, rfl⟩ := hs0.shape
  obtain ⟨p1, q1, rfl⟩ := hs1.shape
  have HS := Lib.hid hS; clear hS
  have HI := Lib.hid hI; clear hI
  have st0 := St.start w
  have hh0 := hs0.size
  replace st0 := st0.addSl ⟨false, lo0, hi0, .slice p0 n0 q0, n0, f0⟩ hs0
  have hh1 := hs1.size
  replace st0 := st0.addSl ⟨false, lo1, hi1, .slice p1 n1 q1, n1, f1⟩ hs1
  replace st0 := (st0.alloc (.cells #[.int .i64 x0, .slice p0 n0 q0] 24)).addBox _ [.int .i64 x0, .slice p0 n0 q0] (Box.made _ _ _ _ (fun j v h => by simpa using h))
  replace st0 := (st0.alloc (.cells #[.int .i64 x1, .slice p1 n1 q1] 24)).addBox _ [.int .i64 x1, .slice p1 n1 q1] (Box.made _ _ _ _ (fun j v h => by simpa using h))
  simp only [World.size_alloc] at st0
  clear hs0 hs1
  go_enter Try.func11, Try.ntmps11
  go_wp2_with fail
  refine (szCyclo_yes _ _ _ _ _ (by omega) (by omega)).mono ?_
  rintro e w1 ⟨rfl, bw1⟩
  have st1 := st0.keep bw1
  have hz_w1 := bw1.size
  try simp only [World.size_alloc] at hz_w1
  clear st0 bw1 
  obtain ⟨c_a0_0, c_a0_1⟩ := (st1.box 1 (w.heap.size, [.int .i64 x0, .slice p0 n0 q0]) rfl).cell2
  obtain ⟨c_a1_0, c_a1_1⟩ := (st1.box 0 (w.heap.size + 1, [.int .i64 x1, .slice p1 n1 q1]) rfl).cell2
  go_wp2_with fail
  refine (szCyclo_yes _ _ _ _ _ (by omega) (by omega)).mono ?_
  rintro e w2 ⟨rfl, bw2⟩
  have st2 := st1.keep bw2
  have hz_w2 := bw2.size
  try simp only [World.size_alloc] at hz_w2
  clear st1 bw2 
  clear c_a0_0 c_a0_1 c_a1_0 c_a1_1
  obtain ⟨c_a0_0, c_a0_1⟩ := (st2.box 1 (w.heap.size, [.int .i64 x0, .slice p0 n0 q0]) rfl).cell2
  obtain ⟨c_a1_0, c_a1_1⟩ := (st2.box 0 (w.heap.size + 1, [.int .i64 x1, .slice p1 n1 q1]) rfl).cell2
  go_wp2_with fail
  go_cut [6, 7] (fun s0 s1 wx => s0 = .int .i64 C0 ∧ s1 = .int .i64 C1 ∧ w2.heap.size ≤ wx.heap.size ∧ St w wx [(w.heap.size + 1, [.int .i64 x1, .slice p1 n1 q1]), (w.heap.size, [.int .i64 x0, .slice p0 n0 q0])] [⟨false, lo1, hi1, .slice p1 n1 q1, n1, f1⟩, ⟨false, lo0, hi0, .slice p0 n0 q0, n0, f0⟩])
  case first =>
    go_region_held3 (fun w' => w'.cell? ⟨w.heap.size, 0, none⟩ = some (.int .i64 x0) ∧ w'.cell? ⟨w.heap.size, 1, none⟩ = some (.slice p0 n0 q0) ∧ w'.cell? ⟨w.heap.size + 1, 0, none⟩ = some (.int .i64 x1) ∧ w'.cell? ⟨w.heap.size + 1, 1, none⟩ = some (.slice p1 n1 q1))
      (first | exact ⟨c_a0_0, c_a0_1, c_a1_0, c_a1_1⟩ | (have q0 := (st8.box 1 (w.heap.size, [.int .i64 x0, .slice p0 n0 q0]) rfl).cell2; have q1 := (st8.box 0 (w.heap.size + 1, [.int .i64 x1, .slice p1 n1 q1]) rfl).cell2; with_reducible exact ⟨q0.1, q0.2, q1.1, q1.2⟩) | (have q0 := (st7.box 1 (w.heap.size, [.int .i64 x0, .slice p0 n0 q0]) rfl).cell2; have q1 := (st7.box 0 (w.heap.size + 1, [.int .i64 x1, .slice p1 n1 q1]) rfl).cell2; with_reducible exact ⟨q0.1, q0.2, q1.1, q1.2⟩) | (have q0 := (st6.box 1 (w.heap.size, [.int .i64 x0, .slice p0 n0 q0]) rfl).cell2; have q1 := (st6.box 0 (w.heap.size + 1, [.int .i64 x1, .slice p1 n1 q1]) rfl).cell2; with_reducible exact ⟨q0.1, q0.2, q1.1, q1.2⟩) | (have q0 := (st2.drew.box 1 (w.heap.size, [.int .i64 x0, .slice p0 n0 q0]) rfl).cell2; have q1 := (st2.drew.box 0 (w.heap.size + 1, [.int .i64 x1, .slice p1 n1 q1]) rfl).cell2; with_reducible exact ⟨q0.1, q0.2, q1.1, q1.2⟩))
      (first
        | (go_at_call 17; have _g := b6; refine (toCyclo_any _ _ (by first | (have q := st6.sl 0 ⟨false, lo1, hi1, .slice p1 n1 q1, n1, f1⟩ rfl; dsimp only at q; with_reducible exact q)) hn1).mono ?_; rintro e w7 ⟨a7, k7, rfl, s7, b7⟩
           have hz7 := b7.size
           try simp only [World.size_drew, World.size_alloc] at hz7
           first | have t6 := s6.keep b7 s6.size
           first | have st7 := st6.keep b7)
        | (go_at_call 17; skip; refine (toCyclo_any _ _ (by first | (have q := st2.drew.sl 1 ⟨false, lo0, hi0, .slice p0 n0 q0, n0, f0⟩ rfl; dsimp only at q; with_reducible exact q)) hn0).mono ?_; rintro e w6 ⟨a6, k6, rfl, s6, b6⟩
           have hz6 := b6.size
           try simp only [World.size_drew, World.size_alloc] at hz6
           first | have st6 := st2.drew.keep b6)
        | (go_at_call 42; refine (HS.out _ _ _ _ _ (by first | with_reducible exact t6) _ _ _ _ (by first | with_reducible exact s7)).mono ?_; rintro e w8 ⟨rfl, b8⟩
           have hz8 := b8.size
           try simp only [World.size_drew, World.size_alloc] at hz8
           first | have st8 := st7.keep b8))
    all_goals
      go_wp2_with fail
      go_meet
      exact ⟨rfl, rfl, by omega, st8⟩
  case rest =>
    obtain ⟨rfl, rfl, hz_w3, st3⟩ := hcut
    try clear st2
    try clear c_a0_0
    try clear c_a0_1
    try clear c_a1_0
    try clear c_a1_1
    obtain ⟨w3, hw_w3⟩ : ∃ x : World, x = wc := ⟨_, rfl⟩
    subst hw_w3
    obtain ⟨c_a0_0, c_a0_1⟩ := (st3.box 1 (w.heap.size, [.int .i64 x0, .slice p0 n0 q0]) rfl).cell2
    obtain ⟨c_a1_0, c_a1_1⟩ := (st3.box 0 (w.heap.size + 1, [.int .i64 x1, .slice p1 n1 q1]) rfl).cell2
    have q_0 := st3.sl 1 ⟨false, lo0, hi0, .slice p0 n0 q0, n0, f0⟩ rfl
    dsimp only at q_0
    go_wp2_with fail
    refine (toCyclo_any _ _ q_0 hn0).mono ?_
    rintro e w4 ⟨aw4, kw4, rfl, sw4, bw4⟩
    have st4 := st3.keep bw4
    have hz_w4 := bw4.size
    try simp only [World.size_alloc] at hz_w4
    try simp only [World.size_alloc] at sw4
    replace st4 := st4.addSl ⟨true, w3.heap.size, w4.heap.size, .slice aw4 n0 kw4, n0, f0⟩ sw4
    replace st4 := (st4.alloc (.cells #[.int .i64 x0, .slice aw4 n0 kw4] 27)).addBox w4.heap.size [.int .i64 x0, .slice aw4 n0 kw4] (Box.made _ _ _ _ (fun j v h => by simpa using h))
    clear st3 bw4 sw4
    clear c_a0_0 c_a0_1 c_a1_0 c_a1_1 q_0
    obtain ⟨c_a0_0, c_a0_1⟩ := (st4.box 2 (w.heap.size, [.int .i64 x0, .slice p0 n0 q0]) rfl).cell2
    obtain ⟨c_a1_0, c_a1_1⟩ := (st4.box 1 (w.heap.size + 1, [.int .i64 x1, .slice p1 n1 q1]) rfl).cell2
    have q_1 := st4.sl 1 ⟨false, lo1, hi1, .slice p1 n1 q1, n1, f1⟩ rfl
    dsimp only at q_1
    go_wp2_with fail
    refine (toCyclo_any _ _ q_1 hn1).mono ?_
    rintro e w5 ⟨aw5, kw5, rfl, sw5, bw5⟩
    have st5 := st4.keep bw5
    have hz_w5 := bw5.size
    try simp only [World.size_alloc] at hz_w5
    try simp only [World.size_alloc] at sw5
    replace st5 := st5.addSl ⟨true, w4.heap.size + 1, w5.heap.size, .slice aw5 n1 kw5, n1, f1⟩ sw5
    replace st5 := (st5.alloc (.cells #[.int .i64 x1, .slice aw5 n1 kw5] 27)).addBox w5.heap.size [.int .i64 x1, .slice aw5 n1 kw5] (Box.made _ _ _ _ (fun j v h => by simpa using h))
    clear st4 bw5 sw5
    clear c_a0_0 c_a0_1 c_a1_0 c_a1_1 q_1
    obtain ⟨c_x0_0, c_x0_1⟩ := (st5.box 1 (w4.heap.size, [.int .i64 x0, .slice aw4 n0 kw4]) rfl).cell2
    obtain ⟨c_x1_0, c_x1_1⟩ := (st5.box 0 (w5.heap.size, [.int .i64 x1, .slice aw5 n1 kw5]) rfl).cell2
    have q_0 := st5.sl 1 ⟨true, w3.heap.size, w4.heap.size, .slice aw4 n0 kw4, n0, f0⟩ rfl
    dsimp only at q_0
    have q_1 := st5.sl 0 ⟨true, w4.heap.size + 1, w5.heap.size, .slice aw5 n1 kw5, n1, f1⟩ rfl
    dsimp only at q_1
    go_wp2_with fail
    refine (HI.out _ _ _ _ _ q_0 _ _ _ _ q_1).mono ?_
    rintro e w6 ⟨rfl, bw6⟩
    have st6 := st5.keep bw6
    have hz_w6 := bw6.size
    try simp only [World.size_alloc] at hz_w6
    clear st5 bw6 
    clear c_x0_0 c_x0_1 c_x1_0 c_x1_1 q_0 q_1
    obtain ⟨c_x0_0, c_x0_1⟩ := (st6.box 1 (w4.heap.size, [.int .i64 x0, .slice aw4 n0 kw4]) rfl).cell2
    obtain ⟨c_a0_0, c_a0_1⟩ := (st6.box 3 (w.heap.size, [.int .i64 x0, .slice p0 n0 q0]) rfl).cell2
    go_wp2_with fail
    go_cut [52] (fun sx wx => sx = .bool false ∧ w6.heap.size ≤ wx.heap.size ∧ St w wx [(w5.heap.size, [.int .i64 x1, .slice aw5 n1 kw5]), (w4.heap.size, [.int .i64 x0, .slice aw4 n0 kw4]), (w.heap.size + 1, [.int .i64 x1, .slice p1 n1 q1]), (w.heap.size, [.int .i64 x0, .slice p0 n0 q0])] [⟨true, w4.heap.size + 1, w5.heap.size, .slice aw5 n1 kw5, n1, f1⟩, ⟨true, w3.heap.size, w4.heap.size, .slice aw4 n0 kw4, n0, f0⟩, ⟨false, lo1, hi1, .slice p1 n1 q1, n1, f1⟩, ⟨false, lo0, hi0, .slice p0 n0 q0, n0, f0⟩])
    case first =>
      go_region_held3 (fun w' => w'.cell? ⟨w4.heap.size, 0, none⟩ = some (.int .i64 x0) ∧ w'.cell? ⟨w4.heap.size, 1, none⟩ = some (.slice aw4 n0 kw4) ∧ w'.cell? ⟨w.heap.size, 0, none⟩ = some (.int .i64 x0) ∧ w'.cell? ⟨w.heap.size, 1, none⟩ = some (.slice p0 n0 q0))
        (first | exact ⟨c_x0_0, c_x0_1, c_a0_0, c_a0_1⟩ | exact ⟨cell_later b6 c_x0_0, cell_later b6 c_x0_1, cell_later b6 c_a0_0, cell_later b6 c_a0_1⟩ | exact ⟨cell_later b7 (cell_later b6 c_x0_0), cell_later b7 (cell_later b6 c_x0_1), cell_later b7 (cell_later b6 c_a0_0), cell_later b7 (cell_later b6 c_a0_1)⟩)
        (first
          | (go_at_call 17; refine (toCyclo_any _ _ (st6.drew.sl 3 ⟨false, lo0, hi0, .slice p0 n0 q0, n0, f0⟩ rfl) hn0).mono ?_; rintro e w6 ⟨a6, k6, rfl, s6, b6⟩)
          | (go_at_call 19; refine (eqCyclo_yes _ _ ((st6.drew.keep b6).sl 1 ⟨true, w3.heap.size, w4.heap.size, .slice aw4 n0 kw4, n0, f0⟩ rfl) s6 (fun _ _ => rfl)).mono ?_; rintro e w7 ⟨rfl, b7⟩))
      all_goals (go_wp2_with fail; go_meet; exact ⟨rfl, (by have z6 := b6.size; have z7 := b7.size; simp only [World.size_drew, World.size_alloc] at z6 z7 ⊢; omega), (st6.drew.keep b6).keep b7⟩)
    case rest =>
      obtain ⟨rfl, hz_w7, st7⟩ := hcut
      try clear st6
      try clear c_x0_0
      try clear c_x0_1
      try clear c_a0_0
      try clear c_a0_1
      obtain ⟨w7, hw_w7⟩ : ∃ x : World, x = wc := ⟨_, rfl⟩
      subst hw_w7
      obtain ⟨c_x1_0, c_x1_1⟩ := (st7.box 0 (w5.heap.size, [.int .i64 x1, .slice aw5 n1 kw5]) rfl).cell2
      obtain ⟨c_a1_0, c_a1_1⟩ := (st7.box 2 (w.heap.size + 1, [.int .i64 x1, .slice p1 n1 q1]) rfl).cell2
      go_wp2_with fail
      go_cut [57] (fun sx wx => sx = .bool false ∧ w7.heap.size ≤ wx.heap.size ∧ St w wx [(w5.heap.size, [.int .i64 x1, .slice aw5 n1 kw5]), (w4.heap.size, [.int .i64 x0, .slice aw4 n0 kw4]), (w.heap.size + 1, [.int .i64 x1, .slice p1 n1 q1]), (w.heap.size, [.int .i64 x0, .slice p0 n0 q0])] [⟨true, w4.heap.size + 1, w5.heap.size, .slice aw5 n1 kw5, n1, f1⟩, ⟨true, w3.heap.size, w4.heap.size, .slice aw4 n0 kw4, n0, f0⟩, ⟨false, lo1, hi1, .slice p1 n1 q1, n1, f1⟩, ⟨false, lo0, hi0, .slice p0 n0 q0, n0, f0⟩])
      case first =>
        go_region_held3 (fun w' => w'.cell? ⟨w5.heap.size, 0, none⟩ = some (.int .i64 x1) ∧ w'.cell? ⟨w5.heap.size, 1, none⟩ = some (.slice aw5 n1 kw5) ∧ w'.cell? ⟨w.heap.size + 1, 0, none⟩ = some (.int .i64 x1) ∧ w'.cell? ⟨w.heap.size + 1, 1, none⟩ = some (.slice p1 n1 q1))
          (first | exact ⟨c_x1_0, c_x1_1, c_a1_0, c_a1_1⟩ | exact ⟨cell_later b6 c_x1_0, cell_later b6 c_x1_1, cell_later b6 c_a1_0, cell_later b6 c_a1_1⟩ | exact ⟨cell_later b7 (cell_later b6 c_x1_0), cell_later b7 (cell_later b6 c_x1_1), cell_later b7 (cell_later b6 c_a1_0), cell_later b7 (cell_later b6 c_a1_1)⟩)
          (first
            | (go_at_call 17; refine (toCyclo_any _ _ (st7.drew.sl 2 ⟨false, lo1, hi1, .slice p1 n1 q1, n1, f1⟩ rfl) hn1).mono ?_; rintro e w6 ⟨a6, k6, rfl, s6, b6⟩)
            | (go_at_call 19; refine (eqCyclo_yes _ _ ((st7.drew.keep b6).sl 0 ⟨true, w4.heap.size + 1, w5.heap.size, .slice aw5 n1 kw5, n1, f1⟩ rfl) s6 (fun _ _ => rfl)).mono ?_; rintro e w7 ⟨rfl, b7⟩))
        all_goals (go_wp2_with fail; go_meet; exact ⟨rfl, (by have z6 := b6.size; have z7 := b7.size; simp only [World.size_drew, World.size_alloc] at z6 z7 ⊢; omega), (st7.drew.keep b6).keep b7⟩)
      case rest =>
        obtain ⟨rfl, hz_w8, st8⟩ := hcut
        try clear st7
        try clear c_x1_0
        try clear c_x1_1
        try clear c_a1_0
        try clear c_a1_1
        obtain ⟨w8, hw_w8⟩ : ∃ x : World, x = wc := ⟨_, rfl⟩
        subst hw_w8
        go_wp2_with fail
        go_ret
        exact ⟨rfl, st8.1⟩

set_option maxRecDepth 100000 in
theorem walk_big0 (w : World) (x0 : Int) {lo0 hi0 n0 : Nat} {v0 : Value} {f0 : Nat → Int} (hs0 : Sl false w lo0 hi0 v0 n0 f0) (x1 : Int) {lo1 hi1 n1 : Nat} {v1 : Value} {f1 : Nat → Int} (hs1 : Sl false w lo1 hi1 v1 n1 f1)  (hn0 : 1048576 < n0) :
    Calls Try.prog 11 #[.agg #[.int .i64 x0, v0], .agg #[.int .i64 x1, v1]] w fun e w' => e = .returned (.bool true) ∧ Below w.heap.size w w' := by
  obtain ⟨p0, c0, rfl⟩ := hs0.shape
  have hm0 := hs0.len
  have hm0' := hm0
  unfold maxLen at hm0'
  clear hs0
  obtain ⟨p1, c1, rfl⟩ := hs1.shape
  have hm1 := hs1.len
  have hm1' := hm1
  unfold maxLen at hm1'
  clear hs1
  have st0 := St.start w
  replace st0 := (st0.alloc (.cells #[.int .i64 x0, .slice p0 n0 c0] 24)).addBox _ [.int .i64 x0, .slice p0 n0 c0] (Box.made _ _ _ _ (fun j v h => by simpa using h))
  replace st0 := (st0.alloc (.cells #[.int .i64 x1, .slice p1 n1 c1] 24)).addBox _ [.int .i64 x1, .slice p1 n1 c1] (Box.made _ _ _ _ (fun j v h => by simpa using h))
  simp only [World.size_alloc] at st0
  go_enter Try.func11, Try.ntmps11
  go_wp2_with fail
  refine (szCyclo_no _ _ _ _ _ hm0 (by omega) (by omega) (by omega)).mono ?_
  rintro e w1 ⟨rfl, b1⟩
  have st1 := st0.keep b1
  clear st0 b1 
  have BB := st1.1
  go_wp2
  go_ret
  exact ⟨rfl, BB⟩

set_option maxRecDepth 100000 in
theorem walk_big1 (w : World) (x0 : Int) {lo0 hi0 n0 : Nat} {v0 : Value} {f0 : Nat → Int} (hs0 : Sl false w lo0 hi0 v0 n0 f0) (x1 : Int) {lo1 hi1 n1 : Nat} {v1 : Value} {f1 : Nat → Int} (hs1 : Sl false w lo1 hi1 v1 n1 f1) (hn0 : n0 ≤ 1048576) (hn1 : 1048576 < n0 + n1) :
    Calls Try.prog 11 #[.agg #[.int .i64 x0, v0], .agg #[.int .i64 x1, v1]] w fun e w' => e = .returned (.bool true) ∧ Below w.heap.size w w' := by
  obtain ⟨p0, c0, rfl⟩ := hs0.shape
  have hm0 := hs0.len
  have hm0' := hm0
  unfold maxLen at hm0'
  clear hs0
  obtain ⟨p1, c1, rfl⟩ := hs1.shape
  have hm1 := hs1.len
  have hm1' := hm1
  unfold maxLen at hm1'
  clear hs1
  have st0 := St.start w
  replace st0 := (st0.alloc (.cells #[.int .i64 x0, .slice p0 n0 c0] 24)).addBox _ [.int .i64 x0, .slice p0 n0 c0] (Box.made _ _ _ _ (fun j v h => by simpa using h))
  replace st0 := (st0.alloc (.cells #[.int .i64 x1, .slice p1 n1 c1] 24)).addBox _ [.int .i64 x1, .slice p1 n1 c1] (Box.made _ _ _ _ (fun j v h => by simpa using h))
  simp only [World.size_alloc] at st0
  go_enter Try.func11, Try.ntmps11
  go_wp2_with fail
  refine (szCyclo_yes _ _ _ _ _ (by omega) (by omega)).mono ?_
  rintro e w1 ⟨rfl, b1⟩
  have st1 := st0.keep b1
  clear st0 b1 
  obtain ⟨e00, e01⟩ := (st1.box 1 (w.heap.size, [.int .i64 x0, .slice p0 n0 c0]) rfl).cell2
  obtain ⟨e10, e11⟩ := (st1.box 0 (w.heap.size + 1, [.int .i64 x1, .slice p1 n1 c1]) rfl).cell2
  go_wp2_with fail
  refine (szCyclo_no _ _ _ _ _ hm1 (by omega) (by omega) (by omega)).mono ?_
  rintro e w2 ⟨rfl, b2⟩
  have st2 := st1.keep b2
  clear st1 b2 e00 e01 e10 e11
  have BB := st2.1
  go_wp2
  go_ret
  exact ⟨rfl, BB⟩

theorem walk (w : World) (x0 : Int) (_hx0 : inR x0) {lo0 hi0 n0 : Nat} {v0 : Value} {f0 : Nat → Int} (hs0 : Sl false w lo0 hi0 v0 n0 f0) (x1 : Int) (_hx1 : inR x1) {lo1 hi1 n1 : Nat} {v1 : Value} {f1 : Nat → Int} (hs1 : Sl false w lo1 hi1 v1 n1 f1) :
    Calls Try.prog 11 #[.agg #[.int .i64 x0, v0], .agg #[.int .i64 x1, v1]] w fun e w' => e = .returned (.bool true) ∧ Below w.heap.size w w' := by
  by_cases hL0 : n0 ≤ 1048576
  · by_cases hLL : n0 + n1 ≤ 1048576
    · by_cases h : CuP x0 n0 f0 ∧ CuP x1 n1 f1
      · obtain ⟨h, h'⟩ := h
        obtain ⟨N, hN⟩ := Int.eq_ofNat_of_zero_le (nrm_nn (f1 0) (f1 1))
        obtain ⟨L, hLD⟩ : ∃ L, 2 ≤ N → isLD N L := by
          by_cases h2 : 2 ≤ N
          · obtain ⟨L, hL⟩ := isLD_ex h2
            exact ⟨L, fun _ => hL⟩
          · exact ⟨0, fun h => absurd h h2⟩
        by_cases hp : N % 3 = 0 ∨ prmB N L = false
        · exact walk_of w x0 n0 f0 x1 n1 f1 hs0 hs1 0 5 hL0 (by omega) hLL (fun w _ _ _ _ hs _ _ _ _ ht => CubicSymbol_spec_no x0 x1 w hs ht h h' N L hN hLD hp) (fun w _ _ _ _ hs _ _ _ _ ht => CubicSymbol_impl_no x0 x1 w hs ht h h' N L hN hLD hp)
        · have h3 : ¬ N % 3 = 0 := fun g => hp (.inl g)
          have hpt : prmB N L = true := by
            cases hb : prmB N L with
            | false => exact absurd (.inr hb) hp
            | true => rfl
          have h2 : 2 ≤ N := by
            have hq := hpt
            unfold prmB at hq
            exact (of_decide_eq_true hq).1
          have P := prN_of hN h2 (hLD h2) h3 hpt
          rcases isSy_ex P ⟨f0 0, f0 1⟩ with ⟨hd, hK⟩ | ⟨hd, i, hi, hK⟩
          · exact walk_of w x0 n0 f0 x1 n1 f1 hs0 hs1 (-1) 0 hL0 (by omega) hLL (fun w _ _ _ _ hs _ _ _ _ ht => CubicSymbol_spec_ok x0 x1 w hs ht h h' N L (-1) hN hLD h3 hpt (by omega) ⟨fun _ => rfl, fun _ => hd⟩ hK) (fun w _ _ _ _ hs _ _ _ _ ht => CubicSymbol_impl_ok x0 x1 w hs ht h h' N L (-1) hN hLD h3 hpt (by omega) hK)
          · exact walk_of w x0 n0 f0 x1 n1 f1 hs0 hs1 (i : Int) 0 hL0 (by omega) hLL (fun w _ _ _ _ hs _ _ _ _ ht => CubicSymbol_spec_ok x0 x1 w hs ht h h' N L i hN hLD h3 hpt (by omega) ⟨fun g => absurd g hd, fun g => by omega⟩ hK) (fun w _ _ _ _ hs _ _ _ _ ht => CubicSymbol_impl_ok x0 x1 w hs ht h h' N L i hN hLD h3 hpt (by omega) hK)
      · exact walk_of w x0 n0 f0 x1 n1 f1 hs0 hs1 0 1 hL0 (by omega) hLL (fun w _ _ _ _ hs _ _ _ _ ht => CubicSymbol_spec_bad x0 x1 w hs ht h) (fun w _ _ _ _ hs _ _ _ _ ht => CubicSymbol_impl_bad x0 x1 w hs ht h)
    · exact walk_big1 w x0 hs0 x1 hs1 hL0 (by omega)
  · exact walk_big0 w x0 hs0 x1 hs1 (by omega)

theorem own : ownKnob Try.prog.godebug = none := by kernel_rfl
theorem laidOut : laidOutB Try.prog = true := by kernel_rfl
set_option maxRecDepth 100000 in
theorem lifted (os : Os) (started : os.Started) (H : Type) (enc : TypeId × Value → H) :
    ReturnsInHanded {} Try.checked os 11 .any (Rows.fnExactCubicSymbolSpec.pre6 enc Try.prog Try.f11 Rows.fnExactCubicSymbolRow.domain false) (Rows.fnExactCubicSymbolSpec.post enc Try.prog Try.f11 false true false false) := by
  refine returnsInHanded_of_change (C := Try.checked) own started (by kernel_rfl) Try.func11
    (ChangeSpec.witness6 (enc := enc) (C := Try.checked) false ⟨#[], #[.agg #[.int .i64 0, .slice none 0 0], .agg #[.int .i64 0, .slice none 0 0]], []⟩ 8 (by kernel_rfl) (by kernel_rfl) (by kernel_rfl) (by kernel_rfl)) ?_
  intro W base args ds gs before hval0 hW hcnd _
  have hval : ∀ (j : Nat) t v, Try.f11.params[j]? = some t → args[j]? = some v → Value.okWide Try.prog W .any base t v := hval0
  have hW' := hW
  obtain ⟨p, q, hA0, hV, rfl, hfz, hnd⟩ := hW
  have hA : DataW.TrodAll enc Try.prog W 0 (fun _ => true) true Try.f11.params.toList args.toList ds p := hA0
  rw [Try.params11] at hA hval
  obtain ⟨v0, vs0, d0, ds0, p0, q0, hargs, rfl, rfl, h0, r0⟩ := trodAll_cons hA
  obtain ⟨v1, vs1, d1, ds1, p1, q1, rfl, rfl, rfl, h1, r1⟩ := trodAll_cons r0
  obtain ⟨rfl, rfl, rfl⟩ := trodAll_nil r1
  obtain rfl : args = #[v0, v1] := by cases args; simp_all
  obtain ⟨rfl, rfl⟩ := trodVars_none hV
  have k0 := h0
  have lt0 : ∀ x ∈ p0, x.block < W.heap.size := by obtain ⟨m, hm⟩ := k0; exact DataW.trod_lt m _ _ _ hm
  obtain ⟨x0, c0, n0, f0, rfl, w0, s0⟩ : ∃ x c n f, v0 = .agg #[.int .i64 x, c] ∧ inR x ∧ Sl false W 0 W.heap.size c n f := by
    obtain ⟨c0, c1, y0, y1, m, rfl, _, _, hy0, hy1⟩ := Joins.open_agg2 Try.underlying24 (by kernel_rfl) (by kernel_rfl) (hval 0 24 v0 rfl rfl) h0
    obtain ⟨x, e0, _, wx⟩ := DataW.trod_int Try.underlying2 hy0
    obtain ⟨n, f, hs⟩ := Sl.came Try.underlying22 Try.underlying2 (by kernel_rfl) hy1
    simp at e0
    exact ⟨x, c1, n, f, by rw [e0], inR_wf wx, hs⟩
  have k1 := h1
  have lt1 : ∀ x ∈ p1, x.block < W.heap.size := by obtain ⟨m, hm⟩ := k1; exact DataW.trod_lt m _ _ _ hm
  obtain ⟨x1, c1, n1, f1, rfl, w1, s1⟩ : ∃ x c n f, v1 = .agg #[.int .i64 x, c] ∧ inR x ∧ Sl false W 0 W.heap.size c n f := by
    obtain ⟨c0, c1, y0, y1, m, rfl, _, _, hy0, hy1⟩ := Joins.open_agg2 Try.underlying24 (by kernel_rfl) (by kernel_rfl) (hval 1 24 v1 rfl rfl) h1
    obtain ⟨x, e0, _, wx⟩ := DataW.trod_int Try.underlying2 hy0
    obtain ⟨n, f, hs⟩ := Sl.came Try.underlying22 Try.underlying2 (by kernel_rfl) hy1
    simp at e0
    exact ⟨x, c1, n, f, by rw [e0], inR_wf wx, hs⟩
  clear hA0 hval0
  refine (walk W x0 (by assumption) s0 x1 (by assumption) s1).mono fun e W' ⟨he, bel⟩ => ?_
  subst he
  exact ⟨_, rfl, _, _, _, [], _, [], hW', trodAll_mk1 (shut_bool Try.underlying4 _), (trodAll_cons_mk (Below.trod laidOut (by kernel_rfl) (of_decide_eq_true (by kernel_rfl)) k0 bel lt0) (trodAll_cons_mk (Below.trod laidOut (by kernel_rfl) (of_decide_eq_true (by kernel_rfl)) k1 bel lt1) trodAll_mk0)), rfl, bel.frame _, fun h => by cases h⟩

theorem over : Rows.fnExactCubicSymbolRow.holds Try.pinned (OpenSpec.ofChange Rows.fnExactCubicSymbolSpec) :=
  OpenClaim.holds_of_wide 11 Try.f11 rfl rfl rfl rfl rfl rfl rfl ⟨rfl, rfl, rfl, rfl, rfl⟩ rfl rfl rfl rfl rfl (by kernel_rfl) Try.func11 (by unfold joinedFacts; exact (and_tt (and_tt (and_tt (and_tt (and_tt (and_tt (and_tt (and_tt (and_tt (and_tt (and_tt (and_tt (and_tt (and_tt (and_tt (and_tt (and_tt (and_tt (and_tt (and_tt (and_tt (and_tt (and_tt (and_tt (and_tt (and_tt (and_tt (and_tt (and_tt (and_tt (and_tt (by kernel_rfl) (by kernel_rfl)) (by kernel_rfl)) (by kernel_rfl)) (by kernel_rfl)) (by kernel_rfl)) (by kernel_rfl)) (by kernel_rfl)) (by kernel_rfl)) (by kernel_rfl)) (by kernel_rfl)) (by kernel_rfl)) (by kernel_rfl)) (by kernel_rfl)) (by kernel_rfl)) (by kernel_rfl)) (by kernel_rfl)) (by kernel_rfl)) (by kernel_rfl)) (by kernel_rfl)) (by kernel_rfl)) (by kernel_rfl)) (by kernel_rfl)) (by kernel_rfl)) (by kernel_rfl)) init_enter) (tt_lifts init_lifts rfl)) (tt_make init_make rfl)) (by kernel_rfl)) (by kernel_rfl)) (by kernel_rfl)) (by kernel_rfl)))
    (of_decide_eq_true (by kernel_rfl)) (by unfold Func.isWrapper; first | (rw [if_pos (by decide +kernel)]; kernel_rfl) | (rw [if_neg (by decide +kernel)]; exact ⟨rfl, rfl⟩))
    (fun os started H enc _ => lifted os started H enc)

theorem proved : Rows.FnExactCubicSymbolSaid := over
#print axioms proved
end fnExactCubicSymbol
end Go.Proofs.Ytfadlnbmpgbeaaa
