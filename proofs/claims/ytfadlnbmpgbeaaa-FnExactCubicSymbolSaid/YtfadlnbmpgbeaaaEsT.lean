/- The code of cubic numbers of the model, quotients rounded down, chosen and primary associates. -/
import Derived.Test.YtfadlnbmpgbeaaaEsS
namespace Go.Proofs.Ytfadlnbmpgbeaaa
open Go.RowKit Go.ChangeShapes Go.Sort
set_option linter.unusedVariables false
set_option linter.unusedSimpArgs false
set_option maxRecDepth 100000
set_option maxHeartbeats 1000000

theorem Box.cell4 {w : World} {b : Nat} {v0 v1 v2 v3 : Value} (h : Box w b [v0, v1, v2, v3]) : w.cell? ⟨b, 0, none⟩ = some v0 ∧ w.cell? ⟨b, 1, none⟩ = some v1 ∧ w.cell? ⟨b, 2, none⟩ = some v2 ∧ w.cell? ⟨b, 3, none⟩ = some v3 :=
  ⟨h.2.1 0 v0 rfl, h.2.1 1 v1 rfl, h.2.1 2 v2 rfl, h.2.1 3 v3 rfl⟩
section
variable {o o' : Bool} {lo hi n lo' hi' n' : Nat} {v v' : Value} {f f' : Nat → Int}
theorem l09Code1_ok (x : Int) (w : World) (g : Nat) (hs : Sl o w lo hi v n f) (hb : Box w g [.int .i64 x, v]) (h : CuP x n f) :
    Calls Try.prog 55 #[.slice (some ⟨g, 0, none⟩) 1 1] w fun e w' => e = .returned (.int .i64 0) ∧ Below w.heap.size w w' := by
  obtain ⟨av, cap, rfl⟩ := hs.shape
  have HC := Lib.hid h
  clear h
  have st := (((St.start w).addSl ⟨o, lo, hi, .slice av n cap, n, f⟩ hs)).addBox g [.int .i64 x, .slice av n cap] hb
  clear hs hb
  go_enter Try.func55, Try.ntmps55
  go_wp2_with fail
  go_loopg [3] 1 (fun k s3 wr => ∃ i : Nat, i + k = 1 ∧ s3 = .int .i64 (i : Int) ∧ St w wr [(g, [.int .i64 x, .slice av n cap])] [⟨o, lo, hi, .slice av n cap, n, f⟩])
  case atStart => exact ⟨0, by omega, rfl, st⟩
  case round =>
    clear st
    obtain ⟨i, hij, rfl, st⟩ := hrel
    have hcell := (st.box 0 _ rfl).cell2
    dsimp only at hcell
    obtain ⟨c0, c1⟩ := hcell
    have hcs : i = 0 ∨ i = 1 := by omega
    rcases hcs with rfl | rfl
    ·
      have q0 := st.sl 0 ⟨o, lo, hi, .slice av n cap, n, f⟩ rfl
      dsimp only at q0
      go_wp2_with fail
      refine (l09Is_yes _ _ q0 HC.out).mono ?_
      rintro e w1 ⟨rfl, b1⟩
      replace st := st.keep b1
      clear b1
      go_wp2
      go_roundg 0
      case rel => exact ⟨1, by omega, rfl, st⟩
      case measure => omega
    ·
      have BB := st.1
      go_wp2
      go_ret
      exact ⟨rfl, BB⟩
theorem l09Code1_bad0 (x : Int) (w : World) (g : Nat) (hs : Sl o w lo hi v n f) (hb : Box w g [.int .i64 x, v]) (h : ¬ CuP x n f) :
    Calls Try.prog 55 #[.slice (some ⟨g, 0, none⟩) 1 1] w fun e w' => e = .returned (.int .i64 1) ∧ Below w.heap.size w w' := by
  obtain ⟨av, cap, rfl⟩ := hs.shape
  have HC := Lib.hid h
  clear h
  have st := (((St.start w).addSl ⟨o, lo, hi, .slice av n cap, n, f⟩ hs)).addBox g [.int .i64 x, .slice av n cap] hb
  clear hs hb
  go_enter Try.func55, Try.ntmps55
  go_wp2_with fail
  go_loopg [3] 1 (fun k s3 wr => ∃ i : Nat, i + k = 1 ∧ s3 = .int .i64 (i : Int) ∧ i ≤ 0 ∧ St w wr [(g, [.int .i64 x, .slice av n cap])] [⟨o, lo, hi, .slice av n cap, n, f⟩])
  case atStart => exact ⟨0, by omega, rfl, by omega, st⟩
  case round =>
    clear st
    obtain ⟨i, hij, rfl, hik, st⟩ := hrel
    have hcell := (st.box 0 _ rfl).cell2
    dsimp only at hcell
    obtain ⟨c0, c1⟩ := hcell
    obtain rfl : i = 0 := by omega
    have q0 := st.sl 0 ⟨o, lo, hi, .slice av n cap, n, f⟩ rfl
    dsimp only at q0
    go_wp2_with fail
    refine (l09Is_no _ _ q0 HC.out).mono ?_
    rintro e w1 ⟨rfl, b1⟩
    replace st := st.keep b1
    clear b1
    have BB := st.1
    go_wp2
    go_ret
    exact ⟨rfl, BB⟩
theorem l09Code2_ok (x x' : Int) (w : World) (g : Nat) (hs : Sl o w lo hi v n f) (hs' : Sl o' w lo' hi' v' n' f') (hb : Box w g [.int .i64 x, v, .int .i64 x', v']) (h : CuP x n f) (h' : CuP x' n' f') :
    Calls Try.prog 55 #[.slice (some ⟨g, 0, none⟩) 2 2] w fun e w' => e = .returned (.int .i64 0) ∧ Below w.heap.size w w' := by
  obtain ⟨av, cap, rfl⟩ := hs.shape
  obtain ⟨av', cap', rfl⟩ := hs'.shape
  have HC := Lib.hid h
  clear h
  have HC' := Lib.hid h'
  clear h'
  have st := (((((St.start w).addSl ⟨o, lo, hi, .slice av n cap, n, f⟩ hs)).addSl ⟨o', lo', hi', .slice av' n' cap', n', f'⟩ hs')).addBox g [.int .i64 x, .slice av n cap, .int .i64 x', .slice av' n' cap'] hb
  clear hs hs' hb
  go_enter Try.func55, Try.ntmps55
  go_wp2_with fail
  go_loopg [3] 2 (fun k s3 wr => ∃ i : Nat, i + k = 2 ∧ s3 = .int .i64 (i : Int) ∧ St w wr [(g, [.int .i64 x, .slice av n cap, .int .i64 x', .slice av' n' cap'])] [⟨o', lo', hi', .slice av' n' cap', n', f'⟩, ⟨o, lo, hi, .slice av n cap, n, f⟩])
  case atStart => exact ⟨0, by omega, rfl, st⟩
  case round =>
    clear st
    obtain ⟨i, hij, rfl, st⟩ := hrel
    have hcell := (st.box 0 _ rfl).cell4
    dsimp only at hcell
    obtain ⟨c0, c1, c2, c3⟩ := hcell
    have hcs : i = 0 ∨ i = 1 ∨ i = 2 := by omega
    rcases hcs with rfl | rfl | rfl
    ·
      have q0 := st.sl 1 ⟨o, lo, hi, .slice av n cap, n, f⟩ rfl
      dsimp only at q0
      go_wp2_with fail
      refine (l09Is_yes _ _ q0 HC.out).mono ?_
      rintro e w1 ⟨rfl, b1⟩
      replace st := st.keep b1
      clear b1
      go_wp2
      go_roundg 1
      case rel => exact ⟨1, by omega, rfl, st⟩
      case measure => omega
    ·
      have q0 := st.sl 0 ⟨o', lo', hi', .slice av' n' cap', n', f'⟩ rfl
      dsimp only at q0
      go_wp2_with fail
      refine (l09Is_yes _ _ q0 HC'.out).mono ?_
      rintro e w1 ⟨rfl, b1⟩
      replace st := st.keep b1
      clear b1
      go_wp2
      go_roundg 0
      case rel => exact ⟨2, by omega, rfl, st⟩
      case measure => omega
    ·
      have BB := st.1
      go_wp2
      go_ret
      exact ⟨rfl, BB⟩
theorem l09Code2_bad0 (x x' : Int) (w : World) (g : Nat) (hs : Sl o w lo hi v n f) (hs' : Sl o' w lo' hi' v' n' f') (hb : Box w g [.int .i64 x, v, .int .i64 x', v']) (h : ¬ CuP x n f) :
    Calls Try.prog 55 #[.slice (some ⟨g, 0, none⟩) 2 2] w fun e w' => e = .returned (.int .i64 1) ∧ Below w.heap.size w w' := by
  obtain ⟨av, cap, rfl⟩ := hs.shape
  obtain ⟨av', cap', rfl⟩ := hs'.shape
  have HC := Lib.hid h
  clear h
  have st := (((((St.start w).addSl ⟨o, lo, hi, .slice av n cap, n, f⟩ hs)).addSl ⟨o', lo', hi', .slice av' n' cap', n', f'⟩ hs')).addBox g [.int .i64 x, .slice av n cap, .int .i64 x', .slice av' n' cap'] hb
  clear hs hs' hb
  go_enter Try.func55, Try.ntmps55
  go_wp2_with fail
  go_loopg [3] 2 (fun k s3 wr => ∃ i : Nat, i + k = 2 ∧ s3 = .int .i64 (i : Int) ∧ i ≤ 0 ∧ St w wr [(g, [.int .i64 x, .slice av n cap, .int .i64 x', .slice av' n' cap'])] [⟨o', lo', hi', .slice av' n' cap', n', f'⟩, ⟨o, lo, hi, .slice av n cap, n, f⟩])
  case atStart => exact ⟨0, by omega, rfl, by omega, st⟩
  case round =>
    clear st
    obtain ⟨i, hij, rfl, hik, st⟩ := hrel
    have hcell := (st.box 0 _ rfl).cell4
    dsimp only at hcell
    obtain ⟨c0, c1, c2, c3⟩ := hcell
    obtain rfl : i = 0 := by omega
    have q0 := st.sl 1 ⟨o, lo, hi, .slice av n cap, n, f⟩ rfl
    dsimp only at q0
    go_wp2_with fail
    refine (l09Is_no _ _ q0 HC.out).mono ?_
    rintro e w1 ⟨rfl, b1⟩
    replace st := st.keep b1
    clear b1
    have BB := st.1
    go_wp2
    go_ret
    exact ⟨rfl, BB⟩
theorem l09Code2_bad1 (x x' : Int) (w : World) (g : Nat) (hs : Sl o w lo hi v n f) (hs' : Sl o' w lo' hi' v' n' f') (hb : Box w g [.int .i64 x, v, .int .i64 x', v']) (h : CuP x n f) (h' : ¬ CuP x' n' f') :
    Calls Try.prog 55 #[.slice (some ⟨g, 0, none⟩) 2 2] w fun e w' => e = .returned (.int .i64 1) ∧ Below w.heap.size w w' := by
  obtain ⟨av, cap, rfl⟩ := hs.shape
  obtain ⟨av', cap', rfl⟩ := hs'.shape
  have HC := Lib.hid h
  clear h
  have HC' := Lib.hid h'
  clear h'
  have st := (((((St.start w).addSl ⟨o, lo, hi, .slice av n cap, n, f⟩ hs)).addSl ⟨o', lo', hi', .slice av' n' cap', n', f'⟩ hs')).addBox g [.int .i64 x, .slice av n cap, .int .i64 x', .slice av' n' cap'] hb
  clear hs hs' hb
  go_enter Try.func55, Try.ntmps55
  go_wp2_with fail
  go_loopg [3] 2 (fun k s3 wr => ∃ i : Nat, i + k = 2 ∧ s3 = .int .i64 (i : Int) ∧ i ≤ 1 ∧ St w wr [(g, [.int .i64 x, .slice av n cap, .int .i64 x', .slice av' n' cap'])] [⟨o', lo', hi', .slice av' n' cap', n', f'⟩, ⟨o, lo, hi, .slice av n cap, n, f⟩])
  case atStart => exact ⟨0, by omega, rfl, by omega, st⟩
  case round =>
    clear st
    obtain ⟨i, hij, rfl, hik, st⟩ := hrel
    have hcell := (st.box 0 _ rfl).cell4
    dsimp only at hcell
    obtain ⟨c0, c1, c2, c3⟩ := hcell
    have hcs : i = 0 ∨ i = 1 := by omega
    rcases hcs with rfl | rfl
    ·
      have q0 := st.sl 1 ⟨o, lo, hi, .slice av n cap, n, f⟩ rfl
      dsimp only at q0
      go_wp2_with fail
      refine (l09Is_yes _ _ q0 HC.out).mono ?_
      rintro e w1 ⟨rfl, b1⟩
      replace st := st.keep b1
      clear b1
      go_wp2
      go_roundg 1
      case rel => exact ⟨1, by omega, rfl, by omega, st⟩
      case measure => omega
    ·
      have q0 := st.sl 0 ⟨o', lo', hi', .slice av' n' cap', n', f'⟩ rfl
      dsimp only at q0
      go_wp2_with fail
      refine (l09Is_no _ _ q0 HC'.out).mono ?_
      rintro e w1 ⟨rfl, b1⟩
      replace st := st.keep b1
      clear b1
      have BB := st.1
      go_wp2
      go_ret
      exact ⟨rfl, BB⟩
theorem l09Told_yes (x : Int) (w : World) (hs : Sl o w lo hi v 2 f) (h0 : -10000 ≤ f 0) (h0' : f 0 ≤ 10000) (h1 : -10000 ≤ f 1) (h1' : f 1 ≤ 10000) :
    Calls Try.prog 59 #[.agg #[.int .i64 x, v]] w fun e w' => e = .returned (.tuple #[.agg #[.int .i64 x, v], .int .i64 0]) ∧ Below w.heap.size w w' := by
  obtain ⟨av, cap, rfl⟩ := hs.shape
  have hm := hs.len
  unfold maxLen at hm
  have st := ((((St.start w).addSl ⟨o, lo, hi, .slice av 2 cap, 2, f⟩ hs).alloc (.cells #[.int .i64 x, .slice av 2 cap] 27)).addBox w.heap.size [.int .i64 x, .slice av 2 cap] (Box.made _ _ _ _ (fun j v h => by simpa using h)))
  replace st := (st.alloc (.cells #[.int .i64 0, .slice none 0 0] 27)).addBox _ [.int .i64 0, .slice none 0 0] (Box.made _ _ _ _ (fun j v h => by simpa using h))
  simp only [World.size_alloc] at st
  have q0 := st.sl 0 ⟨o, lo, hi, .slice av 2 cap, 2, f⟩ rfl
  dsimp only at q0
  go_enter Try.func59, Try.ntmps59
  go_wp2_with fail
  refine (l09Fits_yes _ _ q0 h0 h0' h1 h1').mono ?_
  rintro e w1 ⟨rfl, b1⟩
  replace st := st.keep b1
  have hz1 := b1.size
  try simp only [World.size_alloc] at hz1
  clear b1
  obtain ⟨x0, x1⟩ := (st.box 1 _ rfl).cell2
  have xz := (st.box 1 _ rfl).2.2
  have xs := (st.box 1 _ rfl).1
  dsimp only at x0 x1 xz xs
  obtain ⟨r0, r1⟩ := (st.box 0 _ rfl).cell2
  have rz := (st.box 0 _ rfl).2.2
  have rs := (st.box 0 _ rfl).1
  dsimp only at r0 r1 rz rs
  have BB := st.1
  go_wp2
  refine bodyPost_ret (v := .tuple #[.agg #[.int .i64 x, .slice av 2 cap], .int .i64 0]) (by simp [results, Try.results59, go_sem, r0, r1]) rfl ?_
  exact ⟨rfl, by go_grown⟩
theorem l09Told_no (x : Int) (w : World) (hs : Sl o w lo hi v 2 f) (h : ¬ (-10000 ≤ f 0 ∧ f 0 ≤ 10000 ∧ -10000 ≤ f 1 ∧ f 1 ≤ 10000)) :
    Calls Try.prog 59 #[.agg #[.int .i64 x, v]] w fun e w' => e = .returned (failV 3) ∧ Below w.heap.size w w' := by
  obtain ⟨av, cap, rfl⟩ := hs.shape
  have hm := hs.len
  unfold maxLen at hm
  have st := ((((St.start w).addSl ⟨o, lo, hi, .slice av 2 cap, 2, f⟩ hs).alloc (.cells #[.int .i64 x, .slice av 2 cap] 27)).addBox w.heap.size [.int .i64 x, .slice av 2 cap] (Box.made _ _ _ _ (fun j v h => by simpa using h)))
  replace st := (st.alloc (.cells #[.int .i64 0, .slice none 0 0] 27)).addBox _ [.int .i64 0, .slice none 0 0] (Box.made _ _ _ _ (fun j v h => by simpa using h))
  simp only [World.size_alloc] at st
  have q0 := st.sl 0 ⟨o, lo, hi, .slice av 2 cap, 2, f⟩ rfl
  dsimp only at q0
  have HH := Lib.hid h
  clear h
  go_enter Try.func59, Try.ntmps59
  go_wp2_with fail
  refine (l09Fits_no _ _ q0 HH.out).mono ?_
  rintro e w1 ⟨rfl, b1⟩
  replace st := st.keep b1
  have hz1 := b1.size
  try simp only [World.size_alloc] at hz1
  clear b1
  obtain ⟨x0, x1⟩ := (st.box 1 _ rfl).cell2
  have xz := (st.box 1 _ rfl).2.2
  have xs := (st.box 1 _ rfl).1
  dsimp only at x0 x1 xz xs
  obtain ⟨r0, r1⟩ := (st.box 0 _ rfl).cell2
  have rz := (st.box 0 _ rfl).2.2
  have rs := (st.box 0 _ rfl).1
  dsimp only at r0 r1 rz rs
  have BB := st.1
  go_wp2
  refine bodyPost_ret (v := failV 3) (by simp [results, Try.results59, go_sem, failV, r0, r1]) rfl ?_
  exact ⟨rfl, by go_grown⟩
theorem floor_neg {p q : Int} (hq : 1 ≤ q) (h : p.tmod q < 0) : p.tdiv q - 1 = p / q := by
  have e1 := Int.mul_tdiv_add_tmod p q
  have e2 := Int.lt_tmod_of_pos p (b := q) (by omega)
  have e3 := Int.mul_ediv_add_emod p q
  have e4 := Int.emod_nonneg p (b := q) (by omega)
  have e5 := Int.emod_lt_of_pos p (b := q) (by omega)
  have h2 : q * (p.tdiv q - 1) + (p.tmod q + q) = p := by rw [Int.mul_sub]; omega
  exact (((Int.ediv_emod_unique (a := p) (b := q) (r := p.tmod q + q) (q := p.tdiv q - 1) (by omega)).2 ⟨by omega, by omega, by omega⟩).1).symm
theorem floor_pos {p q : Int} (hq : 1 ≤ q) (h : ¬ p.tmod q < 0) : p.tdiv q = p / q := by
  have e1 := Int.mul_tdiv_add_tmod p q
  have e2 := Int.tmod_lt_of_pos p (b := q) (by omega)
  exact (((Int.ediv_emod_unique (a := p) (b := q) (r := p.tmod q) (q := p.tdiv q) (by omega)).2 ⟨by omega, by omega, by omega⟩).1).symm
theorem l09Floor_any (p q : Int) (w : World) (hq : 1 ≤ q) (hq' : q ≤ 10000000000) (hp : -1000000000000000000 ≤ p) (hp' : p ≤ 1000000000000000000) :
    Calls Try.prog 93 #[.int .i64 p, .int .i64 q] w fun e w' => e = .returned (.int .i64 (p / q)) ∧ w = w' := by
  have h0 : ¬ q = 0 := by omega
  have b1 : -1000000000000000000 ≤ p.tdiv q ∧ p.tdiv q ≤ 1000000000000000000 := by
    have e1 : (p.tdiv q).natAbs = p.natAbs / q.natAbs := Int.natAbs_tdiv p q
    have e2 := Nat.div_le_self p.natAbs q.natAbs
    rw [← e1] at e2
    generalize p.tdiv q = d at e2 ⊢
    omega
  by_cases h : p.tmod q < 0
  · have E := Lib.hid (floor_neg hq h)
    go_enter Try.func93, Try.ntmps93
    go_wp2
    go_ret
    exact ⟨by rw [E.out]; rfl, rfl⟩
  · have E := Lib.hid (floor_pos hq h)
    go_enter Try.func93, Try.ntmps93
    go_wp2
    go_ret
    exact ⟨by rw [← E.out]; rfl, rfl⟩
end
end Go.Proofs.Ytfadlnbmpgbeaaa
