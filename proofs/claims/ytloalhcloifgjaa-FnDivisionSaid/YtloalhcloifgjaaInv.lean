/- InverseOf of the program and of the model. -/
import Derived.Test.YtloalhcloifgjaaDiv
import Derived.Test.YtloalhcloifgjaaDivS
import Derived.Test.YtloalhcloifgjaaDivBase
import Derived.Test.YtloalhcloifgjaaFail
import Derived.Deep.RegionLaw
namespace Go.Proofs.Ytloalhcloifgjaa
open Go.RowKit Go.ChangeShapes
section
variable {P : Program} {fn : FuncId} {args : Array Value} {w : World} {n : Nat} {f g : Nat → Int}
theorem div_ok (h : Calls P fn args w fun e w' => ((dvOk n f g ∧ divTo (dvZ n f g) (dvN n g) (phiN n) ∧ ∃ a9 k9, e = .returned (.tuple #[.agg #[.int .i64 (n : Int), .slice a9 (phiN n) k9], .int .i64 0]) ∧ Sl true w' w.heap.size w'.heap.size (.slice a9 (phiN n) k9) (phiN n) (quoZ (dvZ n f g) (dvN n g))) ∨ (dvOk n f g ∧ ¬ divTo (dvZ n f g) (dvN n g) (phiN n) ∧ e = .returned (failV 4)) ∨ (¬ dvOk n f g ∧ e = .returned (failV 3))) ∧ Below w.heap.size w w') (h1 : dvOk n f g) (h2 : divTo (dvZ n f g) (dvN n g) (phiN n)) :
    Calls P fn args w fun e w' => ∃ a9 k9, e = .returned (.tuple #[.agg #[.int .i64 (n : Int), .slice a9 (phiN n) k9], .int .i64 0]) ∧ Sl true w' w.heap.size w'.heap.size (.slice a9 (phiN n) k9) (phiN n) (quoZ (dvZ n f g) (dvN n g)) ∧ Below w.heap.size w w' :=
  h.mono fun e w' ⟨h, b⟩ => by
    rcases h with ⟨_, _, a, k, he, hs⟩ | ⟨_, h, _⟩ | ⟨h, _⟩
    · exact ⟨a, k, he, hs, b⟩
    · exact absurd h2 h
    · exact absurd h1 h
theorem div_no (h : Calls P fn args w fun e w' => ((dvOk n f g ∧ divTo (dvZ n f g) (dvN n g) (phiN n) ∧ ∃ a9 k9, e = .returned (.tuple #[.agg #[.int .i64 (n : Int), .slice a9 (phiN n) k9], .int .i64 0]) ∧ Sl true w' w.heap.size w'.heap.size (.slice a9 (phiN n) k9) (phiN n) (quoZ (dvZ n f g) (dvN n g))) ∨ (dvOk n f g ∧ ¬ divTo (dvZ n f g) (dvN n g) (phiN n) ∧ e = .returned (failV 4)) ∨ (¬ dvOk n f g ∧ e = .returned (failV 3))) ∧ Below w.heap.size w w') (h1 : dvOk n f g) (h2 : ¬ divTo (dvZ n f g) (dvN n g) (phiN n)) :
    Calls P fn args w fun e w' => e = .returned (failV 4) ∧ Below w.heap.size w w' :=
  h.mono fun e w' ⟨h, b⟩ => by
    rcases h with ⟨_, h, _⟩ | ⟨_, _, he⟩ | ⟨h, _⟩
    · exact absurd h h2
    · exact ⟨he, b⟩
    · exact absurd h1 h
theorem div_big (h : Calls P fn args w fun e w' => ((dvOk n f g ∧ divTo (dvZ n f g) (dvN n g) (phiN n) ∧ ∃ a9 k9, e = .returned (.tuple #[.agg #[.int .i64 (n : Int), .slice a9 (phiN n) k9], .int .i64 0]) ∧ Sl true w' w.heap.size w'.heap.size (.slice a9 (phiN n) k9) (phiN n) (quoZ (dvZ n f g) (dvN n g))) ∨ (dvOk n f g ∧ ¬ divTo (dvZ n f g) (dvN n g) (phiN n) ∧ e = .returned (failV 4)) ∨ (¬ dvOk n f g ∧ e = .returned (failV 3))) ∧ Below w.heap.size w w') (h1 : ¬ dvOk n f g) :
    Calls P fn args w fun e w' => e = .returned (failV 3) ∧ Below w.heap.size w w' :=
  h.mono fun e w' ⟨h, b⟩ => by
    rcases h with ⟨h, _⟩ | ⟨h, _⟩ | ⟨_, he⟩
    · exact absurd h h1
    · exact absurd h h1
    · exact ⟨he, b⟩
end

open Go.RowKit Go.ChangeShapes Go.Sort
set_option linter.unusedVariables false
set_option linter.unusedSimpArgs false

theorem one_cy {n : Nat} {g : Nat → Int} (h : CyP n (phiN n) g) : CyP n (phiN n) one0 := ⟨h.1, h.2.1, rfl, one0_within _⟩
section
variable {o : Bool} {lo hi : Nat} {v : Value} {f g : Nat → Int}
set_option maxRecDepth 100000 in
set_option maxHeartbeats 4000000 in
theorem InverseOf_impl_bad (x : Int) {L : Nat} (w : World) (hs : Sl o w lo hi v L g) (h : ¬ CyP x L g) :
    Calls Try.prog 99 #[.agg #[.int .i64 x, v]] w fun e w' => e = .returned (failV 1) ∧ Below w.heap.size w w' := by
  obtain ⟨av, cap, rfl⟩ := hs.shape
  have hhs := hs.size
  have HC := Lib.hid h
  have st0 := ((((St.start w).addSl ⟨o, lo, hi, .slice av L cap, L, g⟩ hs).alloc (.cells #[.int .i64 x, .slice av L cap] 26)).addBox w.heap.size [.int .i64 x, .slice av L cap] (Box.made _ _ _ _ (fun j v h => by simpa using h)))
  replace st0 := st0.boxNew (.int .i64 0) (.slice none 0 0) 26
  simp only [World.size_alloc] at st0
  have q0 := st0.sl 0 ⟨o, lo, hi, .slice av L cap, L, g⟩ rfl
  dsimp only at q0
  clear h hs
  go_enter Try.func99, Try.ntmps99
  go_wp2_with fail
  refine (IsCyclo_no _ _ q0 HC.out).mono ?_
  rintro e w1 ⟨rfl, b1⟩
  clear q0
  have st1 := st0.keep b1
  have hz_w1 := b1.size
  try simp only [World.size_alloc] at hz_w1
  clear st0 b1
  obtain ⟨d0, d1⟩ := (st1.box 0 (w.heap.size + 1, [.int .i64 0, .slice none 0 0]) rfl).cell2
  have dz := (st1.box 0 (w.heap.size + 1, [.int .i64 0, .slice none 0 0]) rfl).2.2
  have BB := st1.1
  dsimp only at dz
  clear st1
  go_wp2
  refine bodyPost_ret (v := failV 1) (by simp [results, Try.results99, go_sem, failV, d0, d1]) rfl ?_
  exact ⟨rfl, by go_grown⟩

set_option maxRecDepth 100000 in
set_option maxHeartbeats 4000000 in
theorem InverseOf_impl_zero (n : Nat) (w : World) (hs : Sl o w lo hi v (phiN n) g) (h : CyP n (phiN n) g) (hz : zeroB (phiN n) g = true) :
    Calls Try.prog 99 #[.agg #[.int .i64 (n : Int), v]] w fun e w' => e = .returned (failV 5) ∧ Below w.heap.size w w' := by
  obtain ⟨av, cap, rfl⟩ := hs.shape
  have hhs := hs.size
  have HC := Lib.hid h
  have HZ := Lib.hid hz
  have hn1 : 1 ≤ n := by have := h.1; omega
  have hn2 : n ≤ 16 := by have := h.2.1; omega
  have hp := phi_le12 n hn2 hn1
  have hp0 := phiN_pos n (by omega) hn1
  have st0 := ((((St.start w).addSl ⟨o, lo, hi, .slice av (phiN n) cap, (phiN n), g⟩ hs).alloc (.cells #[.int .i64 (n : Int), .slice av (phiN n) cap] 26)).addBox w.heap.size [.int .i64 (n : Int), .slice av (phiN n) cap] (Box.made _ _ _ _ (fun j v h => by simpa using h)))
  replace st0 := st0.boxNew (.int .i64 0) (.slice none 0 0) 26
  simp only [World.size_alloc] at st0
  have q0 := st0.sl 0 ⟨o, lo, hi, .slice av (phiN n) cap, (phiN n), g⟩ rfl
  dsimp only at q0
  clear h hs hz
  go_enter Try.func99, Try.ntmps99
  go_wp2_with fail
  refine (IsCyclo_yes _ _ q0 HC.out).mono ?_
  rintro e w1 ⟨rfl, b1⟩
  clear q0
  have st1 := st0.keep b1
  have hz_w1 := b1.size
  try simp only [World.size_alloc] at hz_w1
  clear st0 b1
  obtain ⟨c0, c1⟩ := (st1.box 1 (w.heap.size, [.int .i64 (n : Int), .slice av (phiN n) cap]) rfl).cell2
  have q1 := st1.sl 0 ⟨o, lo, hi, .slice av (phiN n) cap, (phiN n), g⟩ rfl
  dsimp only at q1
  have hl1 : w.heap.size < w1.heap.size := by omega
  have hl2 : w.heap.size + 1 < w1.heap.size := by omega
  go_wp2_with fail
  go_region_law (first
    | (go_simp; go_at_call 197; refine (oneOf_any n hn1 hn2 _).mono ?_; rintro e w6 ⟨a6, k6, rfl, s6, b6⟩
       have hz6 := b6.size
       have st6 := st1.drew.keep b6
       obtain ⟨x6, x6'⟩ := (st6.box 1 (w.heap.size, [.int .i64 (n : Int), .slice av (phiN n) cap]) rfl).cell2)
    | (go_simp; go_at_call 93; have _g := b6; refine (DivideCyclos_impl_zero n _ s6 (st6.sl 0 ⟨o, lo, hi, .slice av (phiN n) cap, (phiN n), g⟩ rfl) (one_cy HC.out) HC.out HZ.out).mono ?_; rintro e w7 ⟨rfl, b7⟩
       unfold failV
       have hz7 := b7.size
       have st7 := st6.keep b7
       obtain ⟨d0, d1⟩ := (st7.box 0 (w.heap.size + 1, [.int .i64 0, .slice none 0 0]) rfl).cell2
       have dz := (st7.box 0 (w.heap.size + 1, [.int .i64 0, .slice none 0 0]) rfl).2.2
       dsimp only at dz))
  all_goals
    simp only [World.size_drew] at hz6
    have BB := st7.1
    clear st7 b7 st6 b6 s6 st1 q1 c0 c1 x6 x6'
    go_wp2
    refine bodyPost_ret (v := failV 5) (by simp [results, Try.results99, go_sem, failV, d0, d1]) rfl ?_
    exact ⟨rfl, by go_grown⟩

set_option maxRecDepth 100000 in
set_option maxHeartbeats 4000000 in
theorem InverseOf_impl_big (n : Nat) (w : World) (hs : Sl o w lo hi v (phiN n) g) (h : CyP n (phiN n) g) (hz : zeroB (phiN n) g = false) (ho : ¬ dvOk n one0 g) :
    Calls Try.prog 99 #[.agg #[.int .i64 (n : Int), v]] w fun e w' => e = .returned (failV 3) ∧ Below w.heap.size w w' := by
  obtain ⟨av, cap, rfl⟩ := hs.shape
  have hhs := hs.size
  have HC := Lib.hid h
  have HZ := Lib.hid hz
  have hn1 : 1 ≤ n := by have := h.1; omega
  have hn2 : n ≤ 16 := by have := h.2.1; omega
  have hp := phi_le12 n hn2 hn1
  have hp0 := phiN_pos n (by omega) hn1
  have HO := Lib.hid ho
  have st0 := ((((St.start w).addSl ⟨o, lo, hi, .slice av (phiN n) cap, (phiN n), g⟩ hs).alloc (.cells #[.int .i64 (n : Int), .slice av (phiN n) cap] 26)).addBox w.heap.size [.int .i64 (n : Int), .slice av (phiN n) cap] (Box.made _ _ _ _ (fun j v h => by simpa using h)))
  replace st0 := st0.boxNew (.int .i64 0) (.slice none 0 0) 26
  simp only [World.size_alloc] at st0
  have q0 := st0.sl 0 ⟨o, lo, hi, .slice av (phiN n) cap, (phiN n), g⟩ rfl
  dsimp only at q0
  clear h hs hz ho
  go_enter Try.func99, Try.ntmps99
  go_wp2_with fail
  refine (IsCyclo_yes _ _ q0 HC.out).mono ?_
  rintro e w1 ⟨rfl, b1⟩
  clear q0
  have st1 := st0.keep b1
  have hz_w1 := b1.size
  try simp only [World.size_alloc] at hz_w1
  clear st0 b1
  obtain ⟨c0, c1⟩ := (st1.box 1 (w.heap.size, [.int .i64 (n : Int), .slice av (phiN n) cap]) rfl).cell2
  have q1 := st1.sl 0 ⟨o, lo, hi, .slice av (phiN n) cap, (phiN n), g⟩ rfl
  dsimp only at q1
  have hl1 : w.heap.size < w1.heap.size := by omega
  have hl2 : w.heap.size + 1 < w1.heap.size := by omega
  go_wp2_with fail
  go_region_law (first
    | (go_simp; go_at_call 197; refine (oneOf_any n hn1 hn2 _).mono ?_; rintro e w6 ⟨a6, k6, rfl, s6, b6⟩
       have hz6 := b6.size
       have st6 := st1.drew.keep b6
       obtain ⟨x6, x6'⟩ := (st6.box 1 (w.heap.size, [.int .i64 (n : Int), .slice av (phiN n) cap]) rfl).cell2)
    | (go_simp; go_at_call 93; have _g := b6; refine (div_big (DivideCyclos_impl_any n _ s6 (st6.sl 0 ⟨o, lo, hi, .slice av (phiN n) cap, (phiN n), g⟩ rfl) (one_cy HC.out) HC.out HZ.out) HO.out).mono ?_; rintro e w7 ⟨rfl, b7⟩
       unfold failV
       have hz7 := b7.size
       have st7 := st6.keep b7
       obtain ⟨d0, d1⟩ := (st7.box 0 (w.heap.size + 1, [.int .i64 0, .slice none 0 0]) rfl).cell2
       have dz := (st7.box 0 (w.heap.size + 1, [.int .i64 0, .slice none 0 0]) rfl).2.2
       dsimp only at dz))
  all_goals
    simp only [World.size_drew] at hz6
    have BB := st7.1
    clear st7 b7 st6 b6 s6 st1 q1 c0 c1 x6 x6'
    go_wp2
    refine bodyPost_ret (v := failV 3) (by simp [results, Try.results99, go_sem, failV, d0, d1]) rfl ?_
    exact ⟨rfl, by go_grown⟩

set_option maxRecDepth 100000 in
set_option maxHeartbeats 4000000 in
theorem InverseOf_impl_no (n : Nat) (w : World) (hs : Sl o w lo hi v (phiN n) g) (h : CyP n (phiN n) g) (hz : zeroB (phiN n) g = false) (ho : dvOk n one0 g) (hd : ¬ divTo (dvZ n one0 g) (dvN n g) (phiN n)) :
    Calls Try.prog 99 #[.agg #[.int .i64 (n : Int), v]] w fun e w' => e = .returned (failV 4) ∧ Below w.heap.size w w' := by
  obtain ⟨av, cap, rfl⟩ := hs.shape
  have hhs := hs.size
  have HC := Lib.hid h
  have HZ := Lib.hid hz
  have hn1 : 1 ≤ n := by have := h.1; omega
  have hn2 : n ≤ 16 := by have := h.2.1; omega
  have hp := phi_le12 n hn2 hn1
  have hp0 := phiN_pos n (by omega) hn1
  have HO := Lib.hid ho
  have HD := Lib.hid hd
  have st0 := ((((St.start w).addSl ⟨o, lo, hi, .slice av (phiN n) cap, (phiN n), g⟩ hs).alloc (.cells #[.int .i64 (n : Int), .slice av (phiN n) cap] 26)).addBox w.heap.size [.int .i64 (n : Int), .slice av (phiN n) cap] (Box.made _ _ _ _ (fun j v h => by simpa using h)))
  replace st0 := st0.boxNew (.int .i64 0) (.slice none 0 0) 26
  simp only [World.size_alloc] at st0
  have q0 := st0.sl 0 ⟨o, lo, hi, .slice av (phiN n) cap, (phiN n), g⟩ rfl
  dsimp only at q0
  clear h hs hz ho hd
  go_enter Try.func99, Try.ntmps99
  go_wp2_with fail
  refine (IsCyclo_yes _ _ q0 HC.out).mono ?_
  rintro e w1 ⟨rfl, b1⟩
  clear q0
  have st1 := st0.keep b1
  have hz_w1 := b1.size
  try simp only [World.size_alloc] at hz_w1
  clear st0 b1
  obtain ⟨c0, c1⟩ := (st1.box 1 (w.heap.size, [.int .i64 (n : Int), .slice av (phiN n) cap]) rfl).cell2
  have q1 := st1.sl 0 ⟨o, lo, hi, .slice av (phiN n) cap, (phiN n), g⟩ rfl
  dsimp only at q1
  have hl1 : w.heap.size < w1.heap.size := by omega
  have hl2 : w.heap.size + 1 < w1.heap.size := by omega
  go_wp2_with fail
  go_region_law (first
    | (go_simp; go_at_call 197; refine (oneOf_any n hn1 hn2 _).mono ?_; rintro e w6 ⟨a6, k6, rfl, s6, b6⟩
       have hz6 := b6.size
       have st6 := st1.drew.keep b6
       obtain ⟨x6, x6'⟩ := (st6.box 1 (w.heap.size, [.int .i64 (n : Int), .slice av (phiN n) cap]) rfl).cell2)
    | (go_simp; go_at_call 93; have _g := b6; refine (div_no (DivideCyclos_impl_any n _ s6 (st6.sl 0 ⟨o, lo, hi, .slice av (phiN n) cap, (phiN n), g⟩ rfl) (one_cy HC.out) HC.out HZ.out) HO.out HD.out).mono ?_; rintro e w7 ⟨rfl, b7⟩
       unfold failV
       have hz7 := b7.size
       have st7 := st6.keep b7
       obtain ⟨d0, d1⟩ := (st7.box 0 (w.heap.size + 1, [.int .i64 0, .slice none 0 0]) rfl).cell2
       have dz := (st7.box 0 (w.heap.size + 1, [.int .i64 0, .slice none 0 0]) rfl).2.2
       dsimp only at dz))
  all_goals
    simp only [World.size_drew] at hz6
    have BB := st7.1
    clear st7 b7 st6 b6 s6 st1 q1 c0 c1 x6 x6'
    go_wp2
    refine bodyPost_ret (v := failV 4) (by simp [results, Try.results99, go_sem, failV, d0, d1]) rfl ?_
    exact ⟨rfl, by go_grown⟩

set_option maxRecDepth 100000 in
set_option maxHeartbeats 4000000 in
theorem InverseOf_impl_ok (n : Nat) (w : World) (hs : Sl o w lo hi v (phiN n) g) (h : CyP n (phiN n) g) (hz : zeroB (phiN n) g = false) (ho : dvOk n one0 g) (hd : divTo (dvZ n one0 g) (dvN n g) (phiN n)) :
    Calls Try.prog 99 #[.agg #[.int .i64 (n : Int), v]] w fun e w' => ∃ a9 k9, e = .returned (.tuple #[.agg #[.int .i64 (n : Int), .slice a9 (phiN n) k9], .int .i64 0]) ∧ Sl true w' w.heap.size w'.heap.size (.slice a9 (phiN n) k9) (phiN n) (quoZ (dvZ n one0 g) (dvN n g)) ∧ Below w.heap.size w w' := by
  obtain ⟨av, cap, rfl⟩ := hs.shape
  have hhs := hs.size
  have HC := Lib.hid h
  have HZ := Lib.hid hz
  have hn1 : 1 ≤ n := by have := h.1; omega
  have hn2 : n ≤ 16 := by have := h.2.1; omega
  have hp := phi_le12 n hn2 hn1
  have hp0 := phiN_pos n (by omega) hn1
  have HO := Lib.hid ho
  have HD := Lib.hid hd
  have st0 := ((((St.start w).addSl ⟨o, lo, hi, .slice av (phiN n) cap, (phiN n), g⟩ hs).alloc (.cells #[.int .i64 (n : Int), .slice av (phiN n) cap] 26)).addBox w.heap.size [.int .i64 (n : Int), .slice av (phiN n) cap] (Box.made _ _ _ _ (fun j v h => by simpa using h)))
  replace st0 := st0.boxNew (.int .i64 0) (.slice none 0 0) 26
  simp only [World.size_alloc] at st0
  have q0 := st0.sl 0 ⟨o, lo, hi, .slice av (phiN n) cap, (phiN n), g⟩ rfl
  dsimp only at q0
  clear h hs hz ho hd
  go_enter Try.func99, Try.ntmps99
  go_wp2_with fail
  refine (IsCyclo_yes _ _ q0 HC.out).mono ?_
  rintro e w1 ⟨rfl, b1⟩
  clear q0
  have st1 := st0.keep b1
  have hz_w1 := b1.size
  try simp only [World.size_alloc] at hz_w1
  clear st0 b1
  obtain ⟨c0, c1⟩ := (st1.box 1 (w.heap.size, [.int .i64 (n : Int), .slice av (phiN n) cap]) rfl).cell2
  have q1 := st1.sl 0 ⟨o, lo, hi, .slice av (phiN n) cap, (phiN n), g⟩ rfl
  dsimp only at q1
  have hl1 : w.heap.size < w1.heap.size := by omega
  have hl2 : w.heap.size + 1 < w1.heap.size := by omega
  go_wp2_with fail
  go_region_law (first
    | (go_simp; go_at_call 197; refine (oneOf_any n hn1 hn2 _).mono ?_; rintro e w6 ⟨a6, k6, rfl, s6, b6⟩
       have hz6 := b6.size
       have st6 := st1.drew.keep b6
       obtain ⟨x6, x6'⟩ := (st6.box 1 (w.heap.size, [.int .i64 (n : Int), .slice av (phiN n) cap]) rfl).cell2)
    | (go_simp; go_at_call 93; have _g := b6; refine (div_ok (DivideCyclos_impl_any n _ s6 (st6.sl 0 ⟨o, lo, hi, .slice av (phiN n) cap, (phiN n), g⟩ rfl) (one_cy HC.out) HC.out HZ.out) HO.out HD.out).mono ?_; rintro e w7 ⟨a7, k7, rfl, s7, b7⟩
       have hz7 := b7.size
       have st7 := st6.keep b7
       obtain ⟨d0, d1⟩ := (st7.box 0 (w.heap.size + 1, [.int .i64 0, .slice none 0 0]) rfl).cell2
       have dz := (st7.box 0 (w.heap.size + 1, [.int .i64 0, .slice none 0 0]) rfl).2.2
       dsimp only at dz))
  all_goals
    simp only [World.size_drew] at hz6
    have BB := st7.1
    have S7 := Lib.hid s7
    clear st7 b7 st6 b6 s6 st1 q1 c0 c1 x6 x6' s7
    go_wp2
    refine bodyPost_ret (v := .tuple #[.agg #[.int .i64 (n : Int), .slice a7 (phiN n) k7], .int .i64 0]) (by simp [results, Try.results99, go_sem, d0, d1]) rfl ?_
    refine ⟨_, _, rfl, ?_, by go_grown⟩
    exact ((S7.out.setOther (.inl (by show w.heap.size + 1 < _; omega)) _).setOther (.inl (by show w.heap.size + 1 < _; omega)) _).wide (by omega) (by simp) (Nat.le_refl _)

set_option maxRecDepth 100000 in
set_option maxHeartbeats 4000000 in
theorem InverseOf_spec_bad (x : Int) {L : Nat} (w : World) (hs : Sl o w lo hi v L g) (h : ¬ CyP x L g) :
    Calls Try.prog 100 #[.agg #[.int .i64 x, v]] w fun e w' => e = .returned (failV 1) ∧ Below w.heap.size w w' := by
  obtain ⟨av, cap, rfl⟩ := hs.shape
  have hhs := hs.size
  have HC := Lib.hid h
  have st0 := ((((St.start w).addSl ⟨o, lo, hi, .slice av L cap, L, g⟩ hs).alloc (.cells #[.int .i64 x, .slice av L cap] 26)).addBox w.heap.size [.int .i64 x, .slice av L cap] (Box.made _ _ _ _ (fun j v h => by simpa using h)))
  replace st0 := st0.boxNew (.int .i64 0) (.slice none 0 0) 26
  simp only [World.size_alloc] at st0
  have q0 := st0.sl 0 ⟨o, lo, hi, .slice av L cap, L, g⟩ rfl
  dsimp only at q0
  clear h hs
  go_enter Try.func100, Try.ntmps100
  go_wp2_with fail
  refine (l01Is_no _ _ q0 HC.out).mono ?_
  rintro e w1 ⟨rfl, b1⟩
  clear q0
  have st1 := st0.keep b1
  have hz_w1 := b1.size
  try simp only [World.size_alloc] at hz_w1
  clear st0 b1
  obtain ⟨d0, d1⟩ := (st1.box 0 (w.heap.size + 1, [.int .i64 0, .slice none 0 0]) rfl).cell2
  have dz := (st1.box 0 (w.heap.size + 1, [.int .i64 0, .slice none 0 0]) rfl).2.2
  have BB := st1.1
  dsimp only at dz
  clear st1
  go_wp2
  refine bodyPost_ret (v := failV 1) (by simp [results, Try.results100, go_sem, failV, d0, d1]) rfl ?_
  exact ⟨rfl, by go_grown⟩

set_option maxRecDepth 100000 in
set_option maxHeartbeats 4000000 in
theorem InverseOf_spec_zero (n : Nat) (w : World) (hs : Sl o w lo hi v (phiN n) g) (h : CyP n (phiN n) g) (hz : zeroB (phiN n) g = true) :
    Calls Try.prog 100 #[.agg #[.int .i64 (n : Int), v]] w fun e w' => e = .returned (failV 5) ∧ Below w.heap.size w w' := by
  obtain ⟨av, cap, rfl⟩ := hs.shape
  have hhs := hs.size
  have HC := Lib.hid h
  have HZ := Lib.hid hz
  have hn1 : 1 ≤ n := by have := h.1; omega
  have hn2 : n ≤ 16 := by have := h.2.1; omega
  have hp := phi_le12 n hn2 hn1
  have hp0 := phiN_pos n (by omega) hn1
  have st0 := ((((St.start w).addSl ⟨o, lo, hi, .slice av (phiN n) cap, (phiN n), g⟩ hs).alloc (.cells #[.int .i64 (n : Int), .slice av (phiN n) cap] 26)).addBox w.heap.size [.int .i64 (n : Int), .slice av (phiN n) cap] (Box.made _ _ _ _ (fun j v h => by simpa using h)))
  replace st0 := st0.boxNew (.int .i64 0) (.slice none 0 0) 26
  simp only [World.size_alloc] at st0
  have q0 := st0.sl 0 ⟨o, lo, hi, .slice av (phiN n) cap, (phiN n), g⟩ rfl
  dsimp only at q0
  clear h hs hz
  go_enter Try.func100, Try.ntmps100
  go_wp2_with fail
  refine (l01Is_yes _ _ q0 HC.out).mono ?_
  rintro e w1 ⟨rfl, b1⟩
  clear q0
  have st1 := st0.keep b1
  have hz_w1 := b1.size
  try simp only [World.size_alloc] at hz_w1
  clear st0 b1
  obtain ⟨c0, c1⟩ := (st1.box 1 (w.heap.size, [.int .i64 (n : Int), .slice av (phiN n) cap]) rfl).cell2
  have q1 := st1.sl 0 ⟨o, lo, hi, .slice av (phiN n) cap, (phiN n), g⟩ rfl
  dsimp only at q1
  go_wp2_with fail
  refine (l02Null_any n _ q1 hn1 hn2).mono ?_
  rw [HZ.out]
  rintro e w2 ⟨rfl, b2⟩
  have hz_w2 := b2.size
  replace st1 := st1.keep b2
  clear b2 q1 c0 c1
  obtain ⟨d0, d1⟩ := (st1.box 0 (w.heap.size + 1, [.int .i64 0, .slice none 0 0]) rfl).cell2
  have dz := (st1.box 0 (w.heap.size + 1, [.int .i64 0, .slice none 0 0]) rfl).2.2
  have BB := st1.1
  dsimp only at dz
  clear st1
  go_wp2
  refine bodyPost_ret (v := failV 5) (by simp [results, Try.results100, go_sem, failV, d0, d1]) rfl ?_
  exact ⟨rfl, by go_grown⟩

set_option maxRecDepth 100000 in
set_option maxHeartbeats 4000000 in
theorem InverseOf_spec_big (n : Nat) (w : World) (hs : Sl o w lo hi v (phiN n) g) (h : CyP n (phiN n) g) (hz : zeroB (phiN n) g = false) (ho : ¬ dvOk n one0 g) :
    Calls Try.prog 100 #[.agg #[.int .i64 (n : Int), v]] w fun e w' => e = .returned (failV 3) ∧ Below w.heap.size w w' := by
  obtain ⟨av, cap, rfl⟩ := hs.shape
  have hhs := hs.size
  have HC := Lib.hid h
  have HZ := Lib.hid hz
  have hn1 : 1 ≤ n := by have := h.1; omega
  have hn2 : n ≤ 16 := by have := h.2.1; omega
  have hp := phi_le12 n hn2 hn1
  have hp0 := phiN_pos n (by omega) hn1
  have HO := Lib.hid ho
  have st0 := ((((St.start w).addSl ⟨o, lo, hi, .slice av (phiN n) cap, (phiN n), g⟩ hs).alloc (.cells #[.int .i64 (n : Int), .slice av (phiN n) cap] 26)).addBox w.heap.size [.int .i64 (n : Int), .slice av (phiN n) cap] (Box.made _ _ _ _ (fun j v h => by simpa using h)))
  replace st0 := st0.boxNew (.int .i64 0) (.slice none 0 0) 26
  simp only [World.size_alloc] at st0
  have q0 := st0.sl 0 ⟨o, lo, hi, .slice av (phiN n) cap, (phiN n), g⟩ rfl
  dsimp only at q0
  clear h hs hz ho
  go_enter Try.func100, Try.ntmps100
  go_wp2_with fail
  refine (l01Is_yes _ _ q0 HC.out).mono ?_
  rintro e w1 ⟨rfl, b1⟩
  clear q0
  have st1 := st0.keep b1
  have hz_w1 := b1.size
  try simp only [World.size_alloc] at hz_w1
  clear st0 b1
  obtain ⟨c0, c1⟩ := (st1.box 1 (w.heap.size, [.int .i64 (n : Int), .slice av (phiN n) cap]) rfl).cell2
  have q1 := st1.sl 0 ⟨o, lo, hi, .slice av (phiN n) cap, (phiN n), g⟩ rfl
  dsimp only at q1
  go_wp2_with fail
  refine (l02Null_any n _ q1 hn1 hn2).mono ?_
  rw [HZ.out]
  rintro e w2 ⟨rfl, b2⟩
  have hz_w2 := b2.size
  replace st1 := st1.keep b2
  clear b2 q1 c0 c1
  obtain ⟨c0, c1⟩ := (st1.box 1 (w.heap.size, [.int .i64 (n : Int), .slice av (phiN n) cap]) rfl).cell2
  have q1 := st1.sl 0 ⟨o, lo, hi, .slice av (phiN n) cap, (phiN n), g⟩ rfl
  dsimp only at q1
  have hl1 : w.heap.size < w2.heap.size := by omega
  have hl2 : w.heap.size + 1 < w2.heap.size := by omega
  go_wp2_with fail
  go_region_law (first
    | (go_simp; go_at_call 141; refine (l01One_any n _ hn1 hn2).mono ?_; rintro e w6 ⟨a6, k6, rfl, s6r, b6⟩
       have hz6 := b6.size
       have s6 := s6r.congr (f' := one0) (fun j hj => (one_red (by omega) hn1 hj).symm)
       first
         | (have st6 := st1.drew.keep b6
            obtain ⟨x6, x6'⟩ := (st6.box 1 (w.heap.size, [.int .i64 (n : Int), .slice av (phiN n) cap]) rfl).cell2
            have hl6 : w.heap.size < w6.heap.size := by simp only [World.size_drew, World.size_alloc] at hz6; omega
            have hl7 : w.heap.size + 1 < w6.heap.size := by simp only [World.size_drew, World.size_alloc] at hz6; omega)
         | (have st6 := (st1.boxNew (.int .i64 0) (.slice none 0 0) 26).drew.keep b6
            have bx6 := st6.box 0 _ rfl
            obtain ⟨x6, x6'⟩ := (st6.box 2 (w.heap.size, [.int .i64 (n : Int), .slice av (phiN n) cap]) rfl).cell2
            have hl6 : w.heap.size < w6.heap.size := by simp only [World.size_drew, World.size_alloc] at hz6; omega
            have hl7 : w.heap.size + 1 < w6.heap.size := by simp only [World.size_drew, World.size_alloc] at hz6; omega))
    | (go_simp; go_at_call 194; have _g := bx6; refine (div_big (l02Divide_any n _ s6 (st6.sl 0 _ rfl) (one_cy HC.out) HC.out HZ.out) HO.out).mono ?_; rintro e w7 ⟨rfl, b7⟩
       unfold failV
       have hz7 := b7.size
       have st7 := st6.keep b7
       have bx7 := bx6.keep b7
       try dsimp only at bx7
       try simp only [World.size_alloc] at bx7
       obtain ⟨q0', q1'⟩ := bx7.cell2
       have qz' := bx7.2.2)
    | (go_simp; go_at_call 194; have _g := b6; refine (div_big (l02Divide_any n _ s6 (st6.sl 0 _ rfl) (one_cy HC.out) HC.out HZ.out) HO.out).mono ?_; rintro e w7 ⟨rfl, b7⟩
       unfold failV
       have hz7 := b7.size
       have st7 := st6.keep b7)
    | (go_simp; go_at_call 194; have _g := b6; refine (div_big (l02Divide_any n _ (s6.alloc (.cells #[.int .i64 0, .slice none 0 0] 26)) ((st6.sl 0 _ rfl).alloc (.cells #[.int .i64 0, .slice none 0 0] 26)) (one_cy HC.out) HC.out HZ.out) HO.out).mono ?_; rintro e w7 ⟨rfl, b7⟩
       unfold failV
       have hz7 := b7.size
       have st7 := (st6.boxNew (.int .i64 0) (.slice none 0 0) 26).keep b7
       have bx7 := st7.box 0 _ rfl
       try dsimp only at bx7
       try simp only [World.size_alloc] at bx7
       obtain ⟨q0', q1'⟩ := bx7.cell2
       have qz' := bx7.2.2))
  all_goals first
    | (
       have _g : Box w7 w6.heap.size [.int .i64 0, .slice none 0 0] := bx7
       have STF := (st7.tailB.set2 (b := w6.heap.size) (i := 0) (j := 1) (u := .int .i64 0) (v := .slice none 0 0) (by omega) (by intro b hb; simp only [List.mem_cons, List.not_mem_nil, or_false] at hb; rcases hb with rfl | rfl <;> dsimp only <;> omega) (by intro s hs'; simp only [List.mem_cons, List.not_mem_nil, or_false] at hs'; rcases hs' with rfl <;> dsimp only <;> omega)).addBox w6.heap.size [.int .i64 0, .slice none 0 0] (bx7.set2)
       have c8 := (STF.box 0 (w6.heap.size, [.int .i64 0, .slice none 0 0]) rfl).cell2
       have dd := (STF.box 1 (w.heap.size + 1, [.int .i64 0, .slice none 0 0]) rfl).cell2
       have dz := (STF.box 1 (w.heap.size + 1, [.int .i64 0, .slice none 0 0]) rfl).2.2
       dsimp only at dz
       have c8a := c8.1
       have c8b := c8.2
       obtain ⟨d0, d1⟩ := dd
       have BB := STF.1
       clear STF c8 st7 b7 st6 b6 s6 s6r st1 q1 c0 c1 x6 x6'
       go_wp2
       refine bodyPost_ret (v := failV 3) (by simp [results, Try.results100, go_sem, failV, d0, d1]) rfl ?_
       exact ⟨rfl, by go_grown⟩)
    | (
       have _g : Box w7 w2.heap.size [.int .i64 0, .slice none 0 0] := bx7
       have STF := (st7.tailB.set2 (b := w2.heap.size) (i := 0) (j := 1) (u := .int .i64 0) (v := .slice none 0 0) (by omega) (by intro b hb; simp only [List.mem_cons, List.not_mem_nil, or_false] at hb; rcases hb with rfl | rfl <;> dsimp only <;> omega) (by intro s hs'; simp only [List.mem_cons, List.not_mem_nil, or_false] at hs'; rcases hs' with rfl <;> dsimp only <;> omega)).addBox w2.heap.size [.int .i64 0, .slice none 0 0] (bx7.set2)
       have c8 := (STF.box 0 (w2.heap.size, [.int .i64 0, .slice none 0 0]) rfl).cell2
       have dd := (STF.box 1 (w.heap.size + 1, [.int .i64 0, .slice none 0 0]) rfl).cell2
       have dz := (STF.box 1 (w.heap.size + 1, [.int .i64 0, .slice none 0 0]) rfl).2.2
       dsimp only at dz
       have c8a := c8.1
       have c8b := c8.2
       obtain ⟨d0, d1⟩ := dd
       have BB := STF.1
       clear STF c8 st7 b7 st6 b6 s6 s6r st1 q1 c0 c1 x6 x6'
       go_wp2
       refine bodyPost_ret (v := failV 3) (by simp [results, Try.results100, go_sem, failV, d0, d1]) rfl ?_
       exact ⟨rfl, by go_grown⟩)
    | (
       have STF := st7.boxNew (.int .i64 0) (.slice none 0 0) 26
       have c8 := (STF.box 0 (w7.heap.size, [.int .i64 0, .slice none 0 0]) rfl).cell2
       have dd := (STF.box 1 (w.heap.size + 1, [.int .i64 0, .slice none 0 0]) rfl).cell2
       have dz := (STF.box 1 (w.heap.size + 1, [.int .i64 0, .slice none 0 0]) rfl).2.2
       dsimp only at dz
       have c8a := c8.1
       have c8b := c8.2
       obtain ⟨d0, d1⟩ := dd
       have BB := STF.1
       clear STF c8 st7 b7 st6 b6 s6 s6r st1 q1 c0 c1 x6 x6'
       go_wp2
       refine bodyPost_ret (v := failV 3) (by simp [results, Try.results100, go_sem, failV, d0, d1]) rfl ?_
       exact ⟨rfl, by go_grown⟩)

set_option maxRecDepth 100000 in
set_option maxHeartbeats 4000000 in
theorem InverseOf_spec_no (n : Nat) (w : World) (hs : Sl o w lo hi v (phiN n) g) (h : CyP n (phiN n) g) (hz : zeroB (phiN n) g = false) (ho : dvOk n one0 g) (hd : ¬ divTo (dvZ n one0 g) (dvN n g) (phiN n)) :
    Calls Try.prog 100 #[.agg #[.int .i64 (n : Int), v]] w fun e w' => e = .returned (failV 4) ∧ Below w.heap.size w w' := by
  obtain ⟨av, cap, rfl⟩ := hs.shape
  have hhs := hs.size
  have HC := Lib.hid h
  have HZ := Lib.hid hz
  have hn1 : 1 ≤ n := by have := h.1; omega
  have hn2 : n ≤ 16 := by have := h.2.1; omega
  have hp := phi_le12 n hn2 hn1
  have hp0 := phiN_pos n (by omega) hn1
  have HO := Lib.hid ho
  have HD := Lib.hid hd
  have st0 := ((((St.start w).addSl ⟨o, lo, hi, .slice av (phiN n) cap, (phiN n), g⟩ hs).alloc (.cells #[.int .i64 (n : Int), .slice av (phiN n) cap] 26)).addBox w.heap.size [.int .i64 (n : Int), .slice av (phiN n) cap] (Box.made _ _ _ _ (fun j v h => by simpa using h)))
  replace st0 := st0.boxNew (.int .i64 0) (.slice none 0 0) 26
  simp only [World.size_alloc] at st0
  have q0 := st0.sl 0 ⟨o, lo, hi, .slice av (phiN n) cap, (phiN n), g⟩ rfl
  dsimp only at q0
  clear h hs hz ho hd
  go_enter Try.func100, Try.ntmps100
  go_wp2_with fail
  refine (l01Is_yes _ _ q0 HC.out).mono ?_
  rintro e w1 ⟨rfl, b1⟩
  clear q0
  have st1 := st0.keep b1
  have hz_w1 := b1.size
  try simp only [World.size_alloc] at hz_w1
  clear st0 b1
  obtain ⟨c0, c1⟩ := (st1.box 1 (w.heap.size, [.int .i64 (n : Int), .slice av (phiN n) cap]) rfl).cell2
  have q1 := st1.sl 0 ⟨o, lo, hi, .slice av (phiN n) cap, (phiN n), g⟩ rfl
  dsimp only at q1
  go_wp2_with fail
  refine (l02Null_any n _ q1 hn1 hn2).mono ?_
  rw [HZ.out]
  rintro e w2 ⟨rfl, b2⟩
  have hz_w2 := b2.size
  replace st1 := st1.keep b2
  clear b2 q1 c0 c1
  obtain ⟨c0, c1⟩ := (st1.box 1 (w.heap.size, [.int .i64 (n : Int), .slice av (phiN n) cap]) rfl).cell2
  have q1 := st1.sl 0 ⟨o, lo, hi, .slice av (phiN n) cap, (phiN n), g⟩ rfl
  dsimp only at q1
  have hl1 : w.heap.size < w2.heap.size := by omega
  have hl2 : w.heap.size + 1 < w2.heap.size := by omega
  go_wp2_with fail
  go_region_law (first
    | (go_simp; go_at_call 141; refine (l01One_any n _ hn1 hn2).mono ?_; rintro e w6 ⟨a6, k6, rfl, s6r, b6⟩
       have hz6 := b6.size
       have s6 := s6r.congr (f' := one0) (fun j hj => (one_red (by omega) hn1 hj).symm)
       first
         | (have st6 := st1.drew.keep b6
            obtain ⟨x6, x6'⟩ := (st6.box 1 (w.heap.size, [.int .i64 (n : Int), .slice av (phiN n) cap]) rfl).cell2
            have hl6 : w.heap.size < w6.heap.size := by simp only [World.size_drew, World.size_alloc] at hz6; omega
            have hl7 : w.heap.size + 1 < w6.heap.size := by simp only [World.size_drew, World.size_alloc] at hz6; omega)
         | (have st6 := (st1.boxNew (.int .i64 0) (.slice none 0 0) 26).drew.keep b6
            have bx6 := st6.box 0 _ rfl
            obtain ⟨x6, x6'⟩ := (st6.box 2 (w.heap.size, [.int .i64 (n : Int), .slice av (phiN n) cap]) rfl).cell2
            have hl6 : w.heap.size < w6.heap.size := by simp only [World.size_drew, World.size_alloc] at hz6; omega
            have hl7 : w.heap.size + 1 < w6.heap.size := by simp only [World.size_drew, World.size_alloc] at hz6; omega))
    | (go_simp; go_at_call 194; have _g := bx6; refine (div_no (l02Divide_any n _ s6 (st6.sl 0 _ rfl) (one_cy HC.out) HC.out HZ.out) HO.out HD.out).mono ?_; rintro e w7 ⟨rfl, b7⟩
       unfold failV
       have hz7 := b7.size
       have st7 := st6.keep b7
       have bx7 := bx6.keep b7
       try dsimp only at bx7
       try simp only [World.size_alloc] at bx7
       obtain ⟨q0', q1'⟩ := bx7.cell2
       have qz' := bx7.2.2)
    | (go_simp; go_at_call 194; have _g := b6; refine (div_no (l02Divide_any n _ s6 (st6.sl 0 _ rfl) (one_cy HC.out) HC.out HZ.out) HO.out HD.out).mono ?_; rintro e w7 ⟨rfl, b7⟩
       unfold failV
       have hz7 := b7.size
       have st7 := st6.keep b7)
    | (go_simp; go_at_call 194; have _g := b6; refine (div_no (l02Divide_any n _ (s6.alloc (.cells #[.int .i64 0, .slice none 0 0] 26)) ((st6.sl 0 _ rfl).alloc (.cells #[.int .i64 0, .slice none 0 0] 26)) (one_cy HC.out) HC.out HZ.out) HO.out HD.out).mono ?_; rintro e w7 ⟨rfl, b7⟩
       unfold failV
       have hz7 := b7.size
       have st7 := (st6.boxNew (.int .i64 0) (.slice none 0 0) 26).keep b7
       have bx7 := st7.box 0 _ rfl
       try dsimp only at bx7
       try simp only [World.size_alloc] at bx7
       obtain ⟨q0', q1'⟩ := bx7.cell2
       have qz' := bx7.2.2))
  all_goals first
    | (
       have _g : Box w7 w6.heap.size [.int .i64 0, .slice none 0 0] := bx7
       have STF := (st7.tailB.set2 (b := w6.heap.size) (i := 0) (j := 1) (u := .int .i64 0) (v := .slice none 0 0) (by omega) (by intro b hb; simp only [List.mem_cons, List.not_mem_nil, or_false] at hb; rcases hb with rfl | rfl <;> dsimp only <;> omega) (by intro s hs'; simp only [List.mem_cons, List.not_mem_nil, or_false] at hs'; rcases hs' with rfl <;> dsimp only <;> omega)).addBox w6.heap.size [.int .i64 0, .slice none 0 0] (bx7.set2)
       have c8 := (STF.box 0 (w6.heap.size, [.int .i64 0, .slice none 0 0]) rfl).cell2
       have dd := (STF.box 1 (w.heap.size + 1, [.int .i64 0, .slice none 0 0]) rfl).cell2
       have dz := (STF.box 1 (w.heap.size + 1, [.int .i64 0, .slice none 0 0]) rfl).2.2
       dsimp only at dz
       have c8a := c8.1
       have c8b := c8.2
       obtain ⟨d0, d1⟩ := dd
       have BB := STF.1
       clear STF c8 st7 b7 st6 b6 s6 s6r st1 q1 c0 c1 x6 x6'
       go_wp2
       refine bodyPost_ret (v := failV 4) (by simp [results, Try.results100, go_sem, failV, d0, d1]) rfl ?_
       exact ⟨rfl, by go_grown⟩)
    | (
       have _g : Box w7 w2.heap.size [.int .i64 0, .slice none 0 0] := bx7
       have STF := (st7.tailB.set2 (b := w2.heap.size) (i := 0) (j := 1) (u := .int .i64 0) (v := .slice none 0 0) (by omega) (by intro b hb; simp only [List.mem_cons, List.not_mem_nil, or_false] at hb; rcases hb with rfl | rfl <;> dsimp only <;> omega) (by intro s hs'; simp only [List.mem_cons, List.not_mem_nil, or_false] at hs'; rcases hs' with rfl <;> dsimp only <;> omega)).addBox w2.heap.size [.int .i64 0, .slice none 0 0] (bx7.set2)
       have c8 := (STF.box 0 (w2.heap.size, [.int .i64 0, .slice none 0 0]) rfl).cell2
       have dd := (STF.box 1 (w.heap.size + 1, [.int .i64 0, .slice none 0 0]) rfl).cell2
       have dz := (STF.box 1 (w.heap.size + 1, [.int .i64 0, .slice none 0 0]) rfl).2.2
       dsimp only at dz
       have c8a := c8.1
       have c8b := c8.2
       obtain ⟨d0, d1⟩ := dd
       have BB := STF.1
       clear STF c8 st7 b7 st6 b6 s6 s6r st1 q1 c0 c1 x6 x6'
       go_wp2
       refine bodyPost_ret (v := failV 4) (by simp [results, Try.results100, go_sem, failV, d0, d1]) rfl ?_
       exact ⟨rfl, by go_grown⟩)
    | (
       have STF := st7.boxNew (.int .i64 0) (.slice none 0 0) 26
       have c8 := (STF.box 0 (w7.heap.size, [.int .i64 0, .slice none 0 0]) rfl).cell2
       have dd := (STF.box 1 (w.heap.size + 1, [.int .i64 0, .slice none 0 0]) rfl).cell2
       have dz := (STF.box 1 (w.heap.size + 1, [.int .i64 0, .slice none 0 0]) rfl).2.2
       dsimp only at dz
       have c8a := c8.1
       have c8b := c8.2
       obtain ⟨d0, d1⟩ := dd
       have BB := STF.1
       clear STF c8 st7 b7 st6 b6 s6 s6r st1 q1 c0 c1 x6 x6'
       go_wp2
       refine bodyPost_ret (v := failV 4) (by simp [results, Try.results100, go_sem, failV, d0, d1]) rfl ?_
       exact ⟨rfl, by go_grown⟩)

set_option maxRecDepth 100000 in
set_option maxHeartbeats 4000000 in
theorem InverseOf_spec_ok (n : Nat) (w : World) (hs : Sl o w lo hi v (phiN n) g) (h : CyP n (phiN n) g) (hz : zeroB (phiN n) g = false) (ho : dvOk n one0 g) (hd : divTo (dvZ n one0 g) (dvN n g) (phiN n)) :
    Calls Try.prog 100 #[.agg #[.int .i64 (n : Int), v]] w fun e w' => ∃ a9 k9, e = .returned (.tuple #[.agg #[.int .i64 (n : Int), .slice a9 (phiN n) k9], .int .i64 0]) ∧ Sl true w' w.heap.size w'.heap.size (.slice a9 (phiN n) k9) (phiN n) (quoZ (dvZ n one0 g) (dvN n g)) ∧ Below w.heap.size w w' := by
  obtain ⟨av, cap, rfl⟩ := hs.shape
  have hhs := hs.size
  have HC := Lib.hid h
  have HZ := Lib.hid hz
  have hn1 : 1 ≤ n := by have := h.1; omega
  have hn2 : n ≤ 16 := by have := h.2.1; omega
  have hp := phi_le12 n hn2 hn1
  have hp0 := phiN_pos n (by omega) hn1
  have HO := Lib.hid ho
  have HD := Lib.hid hd
  have st0 := ((((St.start w).addSl ⟨o, lo, hi, .slice av (phiN n) cap, (phiN n), g⟩ hs).alloc (.cells #[.int .i64 (n : Int), .slice av (phiN n) cap] 26)).addBox w.heap.size [.int .i64 (n : Int), .slice av (phiN n) cap] (Box.made _ _ _ _ (fun j v h => by simpa using h)))
  replace st0 := st0.boxNew (.int .i64 0) (.slice none 0 0) 26
  simp only [World.size_alloc] at st0
  have q0 := st0.sl 0 ⟨o, lo, hi, .slice av (phiN n) cap, (phiN n), g⟩ rfl
  dsimp only at q0
  clear h hs hz ho hd
  go_enter Try.func100, Try.ntmps100
  go_wp2_with fail
  refine (l01Is_yes _ _ q0 HC.out).mono ?_
  rintro e w1 ⟨rfl, b1⟩
  clear q0
  have st1 := st0.keep b1
  have hz_w1 := b1.size
  try simp only [World.size_alloc] at hz_w1
  clear st0 b1
  obtain ⟨c0, c1⟩ := (st1.box 1 (w.heap.size, [.int .i64 (n : Int), .slice av (phiN n) cap]) rfl).cell2
  have q1 := st1.sl 0 ⟨o, lo, hi, .slice av (phiN n) cap, (phiN n), g⟩ rfl
  dsimp only at q1
  go_wp2_with fail
  refine (l02Null_any n _ q1 hn1 hn2).mono ?_
  rw [HZ.out]
  rintro e w2 ⟨rfl, b2⟩
  have hz_w2 := b2.size
  replace st1 := st1.keep b2
  clear b2 q1 c0 c1
  obtain ⟨c0, c1⟩ := (st1.box 1 (w.heap.size, [.int .i64 (n : Int), .slice av (phiN n) cap]) rfl).cell2
  have q1 := st1.sl 0 ⟨o, lo, hi, .slice av (phiN n) cap, (phiN n), g⟩ rfl
  dsimp only at q1
  have hl1 : w.heap.size < w2.heap.size := by omega
  have hl2 : w.heap.size + 1 < w2.heap.size := by omega
  go_wp2_with fail
  go_region_law (first
    | (go_simp; go_at_call 141; refine (l01One_any n _ hn1 hn2).mono ?_; rintro e w6 ⟨a6, k6, rfl, s6r, b6⟩
       have hz6 := b6.size
       have s6 := s6r.congr (f' := one0) (fun j hj => (one_red (by omega) hn1 hj).symm)
       first
         | (have st6 := st1.drew.keep b6
            obtain ⟨x6, x6'⟩ := (st6.box 1 (w.heap.size, [.int .i64 (n : Int), .slice av (phiN n) cap]) rfl).cell2
            have hl6 : w.heap.size < w6.heap.size := by simp only [World.size_drew, World.size_alloc] at hz6; omega
            have hl7 : w.heap.size + 1 < w6.heap.size := by simp only [World.size_drew, World.size_alloc] at hz6; omega)
         | (have st6 := (st1.boxNew (.int .i64 0) (.slice none 0 0) 26).drew.keep b6
            have bx6 := st6.box 0 _ rfl
            obtain ⟨x6, x6'⟩ := (st6.box 2 (w.heap.size, [.int .i64 (n : Int), .slice av (phiN n) cap]) rfl).cell2
            have hl6 : w.heap.size < w6.heap.size := by simp only [World.size_drew, World.size_alloc] at hz6; omega
            have hl7 : w.heap.size + 1 < w6.heap.size := by simp only [World.size_drew, World.size_alloc] at hz6; omega))
    | (go_simp; go_at_call 194; have _g := bx6; refine (div_ok (l02Divide_any n _ s6 (st6.sl 0 _ rfl) (one_cy HC.out) HC.out HZ.out) HO.out HD.out).mono ?_; rintro e w7 ⟨a7, k7, rfl, s7, b7⟩
       have hz7 := b7.size
       have st7 := st6.keep b7
       have bx7 := bx6.keep b7
       try dsimp only at bx7
       try simp only [World.size_alloc] at bx7
       obtain ⟨q0', q1'⟩ := bx7.cell2
       have qz' := bx7.2.2)
    | (go_simp; go_at_call 194; have _g := b6; refine (div_ok (l02Divide_any n _ s6 (st6.sl 0 _ rfl) (one_cy HC.out) HC.out HZ.out) HO.out HD.out).mono ?_; rintro e w7 ⟨a7, k7, rfl, s7, b7⟩
       have hz7 := b7.size
       have st7 := st6.keep b7)
    | (go_simp; go_at_call 194; have _g := b6; refine (div_ok (l02Divide_any n _ (s6.alloc (.cells #[.int .i64 0, .slice none 0 0] 26)) ((st6.sl 0 _ rfl).alloc (.cells #[.int .i64 0, .slice none 0 0] 26)) (one_cy HC.out) HC.out HZ.out) HO.out HD.out).mono ?_; rintro e w7 ⟨a7, k7, rfl, s7, b7⟩
       have hz7 := b7.size
       have st7 := (st6.boxNew (.int .i64 0) (.slice none 0 0) 26).keep b7
       have bx7 := st7.box 0 _ rfl
       try dsimp only at bx7
       try simp only [World.size_alloc] at bx7
       obtain ⟨q0', q1'⟩ := bx7.cell2
       have qz' := bx7.2.2))
  all_goals first
    | (
       have _g : Box w7 w6.heap.size [.int .i64 0, .slice none 0 0] := bx7
       have STF := (st7.tailB.set2 (b := w6.heap.size) (i := 0) (j := 1) (u := .int .i64 (n : Int)) (v := .slice a7 (phiN n) k7) (by omega) (by intro b hb; simp only [List.mem_cons, List.not_mem_nil, or_false] at hb; rcases hb with rfl | rfl <;> dsimp only <;> omega) (by intro s hs'; simp only [List.mem_cons, List.not_mem_nil, or_false] at hs'; rcases hs' with rfl <;> dsimp only <;> omega)).addBox w6.heap.size [.int .i64 (n : Int), .slice a7 (phiN n) k7] (bx7.set2)
       have c8 := (STF.box 0 (w6.heap.size, [.int .i64 (n : Int), .slice a7 (phiN n) k7]) rfl).cell2
       have dd := (STF.box 1 (w.heap.size + 1, [.int .i64 0, .slice none 0 0]) rfl).cell2
       have dz := (STF.box 1 (w.heap.size + 1, [.int .i64 0, .slice none 0 0]) rfl).2.2
       dsimp only at dz
       have S7 := Lib.hid ((s7.setOther (p := ⟨w6.heap.size, 0, none⟩) (.inl (by show w6.heap.size < (w6.alloc _).heap.size; rw [World.size_alloc]; omega)) (.int .i64 (n : Int))).setOther (p := ⟨w6.heap.size, 1, none⟩) (.inl (by show w6.heap.size < (w6.alloc _).heap.size; rw [World.size_alloc]; omega)) (.slice a7 (phiN n) k7))
       have c8a := c8.1
       have c8b := c8.2
       obtain ⟨d0, d1⟩ := dd
       have BB := STF.1
       clear STF c8 st7 b7 st6 b6 s6 s6r st1 q1 c0 c1 x6 x6' s7
       go_wp2
       refine bodyPost_ret (v := .tuple #[.agg #[.int .i64 (n : Int), .slice a7 (phiN n) k7], .int .i64 0]) (by simp [results, Try.results100, go_sem, d0, d1]) rfl ?_
       refine ⟨_, _, rfl, ?_, by go_grown⟩
       exact ((S7.out.setOther (.inl (by show w.heap.size + 1 < _; (try simp only [World.size_alloc]); omega)) _).setOther (.inl (by show w.heap.size + 1 < _; (try simp only [World.size_alloc]); omega)) _).wide (by (try simp only [World.size_alloc]); omega) (by simp) (Nat.le_refl _))
    | (
       have _g : Box w7 w2.heap.size [.int .i64 0, .slice none 0 0] := bx7
       have STF := (st7.tailB.set2 (b := w2.heap.size) (i := 0) (j := 1) (u := .int .i64 (n : Int)) (v := .slice a7 (phiN n) k7) (by omega) (by intro b hb; simp only [List.mem_cons, List.not_mem_nil, or_false] at hb; rcases hb with rfl | rfl <;> dsimp only <;> omega) (by intro s hs'; simp only [List.mem_cons, List.not_mem_nil, or_false] at hs'; rcases hs' with rfl <;> dsimp only <;> omega)).addBox w2.heap.size [.int .i64 (n : Int), .slice a7 (phiN n) k7] (bx7.set2)
       have c8 := (STF.box 0 (w2.heap.size, [.int .i64 (n : Int), .slice a7 (phiN n) k7]) rfl).cell2
       have dd := (STF.box 1 (w.heap.size + 1, [.int .i64 0, .slice none 0 0]) rfl).cell2
       have dz := (STF.box 1 (w.heap.size + 1, [.int .i64 0, .slice none 0 0]) rfl).2.2
       dsimp only at dz
       have S7 := Lib.hid ((s7.setOther (p := ⟨w2.heap.size, 0, none⟩) (.inl (by show w2.heap.size < w6.heap.size; simp only [World.size_drew, World.size_alloc] at hz6; omega)) (.int .i64 (n : Int))).setOther (p := ⟨w2.heap.size, 1, none⟩) (.inl (by show w2.heap.size < w6.heap.size; simp only [World.size_drew, World.size_alloc] at hz6; omega)) (.slice a7 (phiN n) k7))
       have c8a := c8.1
       have c8b := c8.2
       obtain ⟨d0, d1⟩ := dd
       have BB := STF.1
       clear STF c8 st7 b7 st6 b6 s6 s6r st1 q1 c0 c1 x6 x6' s7
       go_wp2
       refine bodyPost_ret (v := .tuple #[.agg #[.int .i64 (n : Int), .slice a7 (phiN n) k7], .int .i64 0]) (by simp [results, Try.results100, go_sem, d0, d1]) rfl ?_
       refine ⟨_, _, rfl, ?_, by go_grown⟩
       exact ((S7.out.setOther (.inl (by show w.heap.size + 1 < _; (try simp only [World.size_alloc]); omega)) _).setOther (.inl (by show w.heap.size + 1 < _; (try simp only [World.size_alloc]); omega)) _).wide (by (try simp only [World.size_alloc]); omega) (by simp) (Nat.le_refl _))
    | (
       have STF := st7.boxNew (.int .i64 (n : Int)) (.slice a7 (phiN n) k7) 26
       have c8 := (STF.box 0 (w7.heap.size, [.int .i64 (n : Int), .slice a7 (phiN n) k7]) rfl).cell2
       have dd := (STF.box 1 (w.heap.size + 1, [.int .i64 0, .slice none 0 0]) rfl).cell2
       have dz := (STF.box 1 (w.heap.size + 1, [.int .i64 0, .slice none 0 0]) rfl).2.2
       dsimp only at dz
       have S7 := Lib.hid (s7.alloc (.cells #[.int .i64 (n : Int), .slice a7 (phiN n) k7] 26))
       have c8a := c8.1
       have c8b := c8.2
       obtain ⟨d0, d1⟩ := dd
       have BB := STF.1
       clear STF c8 st7 b7 st6 b6 s6 s6r st1 q1 c0 c1 x6 x6' s7
       go_wp2
       refine bodyPost_ret (v := .tuple #[.agg #[.int .i64 (n : Int), .slice a7 (phiN n) k7], .int .i64 0]) (by simp [results, Try.results100, go_sem, d0, d1]) rfl ?_
       refine ⟨_, _, rfl, ?_, by go_grown⟩
       exact ((S7.out.setOther (.inl (by show w.heap.size + 1 < _; (try simp only [World.size_alloc]); omega)) _).setOther (.inl (by show w.heap.size + 1 < _; (try simp only [World.size_alloc]); omega)) _).wide (by (try simp only [World.size_alloc]); omega) (by simp) (Nat.le_refl _))

end
end Go.Proofs.Ytloalhcloifgjaa
