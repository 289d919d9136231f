/- AreAssociate of the program and of the model. -/
import Derived.Test.YtfadlnbmpgbeaaaEsW
import Derived.Test.YtfadlnbmpgbeaaaEsX
import Derived.Test.YtfadlnbmpgbeaaaReal
import Derived.Deep.LoopGhost
import Derived.Deep.RegionHeld3
namespace Go.Proofs.Ytfadlnbmpgbeaaa
open Go.RowKit Go.ChangeShapes Go.Sort
set_option linter.unusedVariables false
set_option linter.unusedSimpArgs false
set_option maxRecDepth 100000
set_option maxHeartbeats 4000000

theorem as_succ (k : Nat) (a b : Int) : asA (k + 1) a b = asA k a b - asB k a b ∧ asB (k + 1) a b = asA k a b := by
  have h := as_add 1 k a b
  rw [Nat.add_comm] at h
  exact h
theorem as_zero : ∀ k, asA k 0 0 = 0 ∧ asB k 0 0 = 0
  | 0 => ⟨rfl, rfl⟩
  | k + 1 => as_zero k
theorem asoc_zl {c d : Int} : asoc 0 0 c d ↔ c = 0 ∧ d = 0 := by
  constructor
  · rintro ⟨k, _, h1, h2⟩
    have := as_zero k
    omega
  · rintro ⟨rfl, rfl⟩
    exact ⟨0, by omega, rfl, rfl⟩
theorem asoc_zr {a b : Int} (h : asoc a b 0 0) : a = 0 ∧ b = 0 := by
  obtain ⟨k, hk, h1, h2⟩ := h
  have h3 := as_add (6 - k) k a b
  rw [show 6 - k + k = 6 by omega, (as_six a b).1, (as_six a b).2, h1, h2, (as_zero _).1, (as_zero _).2] at h3
  exact h3
section
variable {o o' : Bool} {lo hi n lo' hi' n' : Nat} {v v' : Value} {f f' : Nat → Int}
theorem AreAssociate_impl_bad (x x' : Int) (w : World) (hs : Sl o w lo hi v n f) (hs' : Sl o' w lo' hi' v' n' f') (h : ¬ (CuP x n f ∧ CuP x' n' f')) :
    Calls Try.prog 47 #[.agg #[.int .i64 x, v], .agg #[.int .i64 x', v']] w fun e w' => e = .returned (.tuple #[.bool false, .int .i64 1]) ∧ Below w.heap.size w w' := by
  obtain ⟨av, cap, rfl⟩ := hs.shape
  obtain ⟨av', cap', rfl⟩ := hs'.shape
  have hh := hs.size
  have hh' := hs'.size
  have st := (((((St.start w).addSl ⟨o, lo, hi, .slice av n cap, n, f⟩ hs).addSl ⟨o', lo', hi', .slice av' n' cap', n', f'⟩ hs').alloc (.cells #[.int .i64 x, .slice av n cap] 27)).addBox w.heap.size [.int .i64 x, .slice av n cap] (Box.made _ _ _ _ (fun j v h => by simpa using h)))
  replace st := (st.alloc (.cells #[.int .i64 x', .slice av' n' cap'] 27)).addBox _ [.int .i64 x', .slice av' n' cap'] (Box.made _ _ _ _ (fun j v h => by simpa using h))
  simp only [World.size_alloc] at st
  have HB := Lib.hid h
  clear h
  go_enter Try.func47, Try.ntmps47
  have q0 := st.sl 1 ⟨o, lo, hi, .slice av n cap, n, f⟩ rfl
  have q1 := st.sl 0 ⟨o', lo', hi', .slice av' n' cap', n', f'⟩ rfl
  dsimp only at q0 q1
  go_wp2_with fail
  refine (openCubics_bad _ _ _ q0 q1 HB.out).mono ?_
  rintro e w1 ⟨rfl, b1⟩
  replace st := st.keep b1
  clear b1 q0 q1
  have BB := st.1
  have BBs := BB.size
  go_wp2
  go_ret2
  exact ⟨by first | rfl | simp, by go_grown⟩
theorem AreAssociate_impl_yes (x x' : Int) (w : World) (hs : Sl o w lo hi v n f) (hs' : Sl o' w lo' hi' v' n' f') (h : CuP x n f) (h' : CuP x' n' f') (ha : asoc (f 0) (f 1) (f' 0) (f' 1)) :
    Calls Try.prog 47 #[.agg #[.int .i64 x, v], .agg #[.int .i64 x', v']] w fun e w' => e = .returned (.tuple #[.bool true, .int .i64 0]) ∧ Below w.heap.size w w' := by
  have hb := h.bd
  have HC := Lib.hid h
  have HC' := Lib.hid h'
  have HA := Lib.hid ha
  clear h h' ha
  obtain ⟨av, cap, rfl⟩ := hs.shape
  obtain ⟨av', cap', rfl⟩ := hs'.shape
  have hh := hs.size
  have hh' := hs'.size
  have st := (((((St.start w).addSl ⟨o, lo, hi, .slice av n cap, n, f⟩ hs).addSl ⟨o', lo', hi', .slice av' n' cap', n', f'⟩ hs').alloc (.cells #[.int .i64 x, .slice av n cap] 27)).addBox w.heap.size [.int .i64 x, .slice av n cap] (Box.made _ _ _ _ (fun j v h => by simpa using h)))
  replace st := (st.alloc (.cells #[.int .i64 x', .slice av' n' cap'] 27)).addBox _ [.int .i64 x', .slice av' n' cap'] (Box.made _ _ _ _ (fun j v h => by simpa using h))
  simp only [World.size_alloc] at st
  go_enter Try.func47, Try.ntmps47
  have q0 := st.sl 1 ⟨o, lo, hi, .slice av n cap, n, f⟩ rfl
  have q1 := st.sl 0 ⟨o', lo', hi', .slice av' n' cap', n', f'⟩ rfl
  dsimp only at q0 q1
  go_wp2_with fail
  refine (openCubics_ok _ _ _ q0 q1 HC.out HC'.out).mono ?_
  rintro e w1 ⟨rfl, b1⟩
  replace st := st.keep b1
  have hz1 := b1.size
  try simp only [World.size_alloc] at hz1
  clear b1 q0 q1
  replace st := (st.alloc (.cells #[.int .i64 (f 0), .int .i64 (f 1)] 59)).addBox _ [.int .i64 (f 0), .int .i64 (f 1)] (Box.made _ _ _ _ (fun j v h => by simpa using h))
  replace st := (st.alloc (.cells #[.int .i64 (f' 0), .int .i64 (f' 1)] 59)).addBox _ [.int .i64 (f' 0), .int .i64 (f' 1)] (Box.made _ _ _ _ (fun j v h => by simpa using h))
  simp only [World.size_alloc] at st
  have z0 : w.heap.size < w1.heap.size := by have := (st.box 3 _ rfl).1; have := (st.box 2 _ rfl).1; omega
  have stx := st.sub (bs' := [(w1.heap.size, [.int .i64 (f 0), .int .i64 (f 1)]), (w1.heap.size + 1, [.int .i64 (f' 0), .int .i64 (f' 1)])]) (ss' := []) (by intro b hb; simp only [List.mem_cons, List.not_mem_nil, or_false] at hb; rcases hb with rfl | rfl <;> simp) (by intro s hs; cases hs)
  clear st
  go_wp2_with fail
  go_loopg [19] 6 (fun k s19 wr => ∃ (i : Nat) (p q : Int), i + k = 6 ∧ s19 = .int .i64 (i : Int) ∧ (-40000 ≤ p ∧ p ≤ 40000 ∧ -40000 ≤ q ∧ q ≤ 40000 ∧ -40000 ≤ p - q ∧ p - q ≤ 40000) ∧ Hid (asA i (f 0) (f 1) = p ∧ asB i (f 0) (f 1) = q) ∧ Hid (∀ j, j < i → ¬ (asA j (f 0) (f 1) = f' 0 ∧ asB j (f 0) (f 1) = f' 1)) ∧ St w wr [(w1.heap.size, [.int .i64 p, .int .i64 q]), (w1.heap.size + 1, [.int .i64 (f' 0), .int .i64 (f' 1)])] [])
  case atStart => exact ⟨0, f 0, f 1, by omega, rfl, by omega, Lib.hid ⟨rfl, rfl⟩, Lib.hid (fun j h => by omega), stx⟩
  case round =>
    clear stx
    obtain ⟨i, p, q, hik, rfl, hbd, HP, HJ, st⟩ := hrel
    obtain ⟨c, hc⟩ : ∃ c, f' 0 = c := ⟨_, rfl⟩
    obtain ⟨d, hd⟩ : ∃ d, f' 1 = d := ⟨_, rfl⟩
    have HCD := Lib.hid (show f' 0 = c ∧ f' 1 = d from ⟨hc, hd⟩)
    rw [hc, hd] at st
    clear hc hd
    obtain ⟨x0, x1⟩ := (st.box 0 _ rfl).cell2
    have xz := (st.box 0 _ rfl).2.2
    have xs := (st.box 0 _ rfl).1
    dsimp only at x0 x1 xz xs
    obtain ⟨y0, y1⟩ := (st.box 1 _ rfl).cell2
    have yz := (st.box 1 _ rfl).2.2
    have ys := (st.box 1 _ rfl).1
    dsimp only at y0 y1 yz ys
    by_cases hi6 : i < 6
    · have hlt : decide ((i : Int) < 6) = true := decide_eq_true (by omega)
      have ROUND : ∀ (hne : ¬ (p = c ∧ q = d)), ∀ j, j < i + 1 → ¬ (asA j (f 0) (f 1) = f' 0 ∧ asB j (f 0) (f 1) = f' 1) := fun hne j hj => by
        rcases Nat.lt_or_ge j i with h | h
        · exact HJ.out j h
        · obtain rfl : j = i := by omega
          rw [HP.out.1, HP.out.2, HCD.out.1, HCD.out.2]
          exact hne
      have RO := Lib.hid ROUND
      clear ROUND
      by_cases e1 : p = c
      · by_cases e2 : q = d
        · have hyes : asoc (f 0) (f 1) (f' 0) (f' 1) := ⟨i, hi6, by rw [HP.out.1, HCD.out.1]; exact e1, by rw [HP.out.2, HCD.out.2]; exact e2⟩
          have HY := Lib.hid hyes
          clear hyes
          subst e1
          subst e2
          have BB := st.1
          have BBs := BB.size
          go_wp2
          go_ret2
          exact ⟨by first | rfl | simp, by go_grown⟩
        · have HE2 := Lib.hid (show ¬ (p = c ∧ q = d) from fun h => e2 h.2)
          subst e1
          go_wp2_with fail
          refine (turned_impl p q _ (by omega) (by omega) (by omega) (by omega)).mono ?_
          rintro e w2 ⟨rfl, b2⟩
          replace st := st.keep b2
          clear b2 x0 x1 xz xs y0 y1 yz ys
          obtain ⟨x0, x1⟩ := (st.box 0 _ rfl).cell2; have xz := (st.box 0 _ rfl).2.2; have xs := (st.box 0 _ rfl).1; (try dsimp only at x0 x1 xz xs)
          have st2 := st.setHead (u0 := .int .i64 (p - q)) (u1 := .int .i64 p) (by omega) (by intro q hq; simp only [List.mem_cons, List.not_mem_nil, or_false] at hq; rcases hq with rfl <;> dsimp only <;> omega) (by intro s hs; cases hs)
          go_wp2
          have hs := as_succ i (f 0) (f 1)
          rw [HP.out.1, HP.out.2] at hs
          go_roundg (gk - 1)
          case rel => exact ⟨i + 1, p - q, p, by omega, by go_num, by omega, Lib.hid hs, Lib.hid (RO.out HE2.out), by rw [HCD.out.1, HCD.out.2]; exact st2⟩
          case measure => omega
      · have HE2 := Lib.hid (show ¬ (p = c ∧ q = d) from fun h => e1 h.1)
        go_wp2_with fail
        refine (turned_impl p q _ (by omega) (by omega) (by omega) (by omega)).mono ?_
        rintro e w2 ⟨rfl, b2⟩
        replace st := st.keep b2
        clear b2 x0 x1 xz xs y0 y1 yz ys
        obtain ⟨x0, x1⟩ := (st.box 0 _ rfl).cell2; have xz := (st.box 0 _ rfl).2.2; have xs := (st.box 0 _ rfl).1; (try dsimp only at x0 x1 xz xs)
        have st2 := st.setHead (u0 := .int .i64 (p - q)) (u1 := .int .i64 p) (by omega) (by intro q hq; simp only [List.mem_cons, List.not_mem_nil, or_false] at hq; rcases hq with rfl <;> dsimp only <;> omega) (by intro s hs; cases hs)
        go_wp2
        have hs := as_succ i (f 0) (f 1)
        rw [HP.out.1, HP.out.2] at hs
        go_roundg (gk - 1)
        case rel => exact ⟨i + 1, p - q, p, by omega, by go_num, by omega, Lib.hid hs, Lib.hid (RO.out HE2.out), by rw [HCD.out.1, HCD.out.2]; exact st2⟩
        case measure => omega
    · obtain rfl : i = 6 := by omega
      have hlt : decide (((6 : Nat) : Int) < 6) = false := by decide
      have hno : ¬ asoc (f 0) (f 1) (f' 0) (f' 1) := fun ⟨k, hk, h1, h2⟩ => HJ.out k hk ⟨h1, h2⟩
      exact absurd HA.out hno
theorem AreAssociate_impl_no (x x' : Int) (w : World) (hs : Sl o w lo hi v n f) (hs' : Sl o' w lo' hi' v' n' f') (h : CuP x n f) (h' : CuP x' n' f') (ha : ¬ asoc (f 0) (f 1) (f' 0) (f' 1)) :
    Calls Try.prog 47 #[.agg #[.int .i64 x, v], .agg #[.int .i64 x', v']] w fun e w' => e = .returned (.tuple #[.bool false, .int .i64 0]) ∧ Below w.heap.size w w' := by
  have hb := h.bd
  have HC := Lib.hid h
  have HC' := Lib.hid h'
  have HA := Lib.hid ha
  clear h h' ha
  obtain ⟨av, cap, rfl⟩ := hs.shape
  obtain ⟨av', cap', rfl⟩ := hs'.shape
  have hh := hs.size
  have hh' := hs'.size
  have st := (((((St.start w).addSl ⟨o, lo, hi, .slice av n cap, n, f⟩ hs).addSl ⟨o', lo', hi', .slice av' n' cap', n', f'⟩ hs').alloc (.cells #[.int .i64 x, .slice av n cap] 27)).addBox w.heap.size [.int .i64 x, .slice av n cap] (Box.made _ _ _ _ (fun j v h => by simpa using h)))
  replace st := (st.alloc (.cells #[.int .i64 x', .slice av' n' cap'] 27)).addBox _ [.int .i64 x', .slice av' n' cap'] (Box.made _ _ _ _ (fun j v h => by simpa using h))
  simp only [World.size_alloc] at st
  go_enter Try.func47, Try.ntmps47
  have q0 := st.sl 1 ⟨o, lo, hi, .slice av n cap, n, f⟩ rfl
  have q1 := st.sl 0 ⟨o', lo', hi', .slice av' n' cap', n', f'⟩ rfl
  dsimp only at q0 q1
  go_wp2_with fail
  refine (openCubics_ok _ _ _ q0 q1 HC.out HC'.out).mono ?_
  rintro e w1 ⟨rfl, b1⟩
  replace st := st.keep b1
  have hz1 := b1.size
  try simp only [World.size_alloc] at hz1
  clear b1 q0 q1
  replace st := (st.alloc (.cells #[.int .i64 (f 0), .int .i64 (f 1)] 59)).addBox _ [.int .i64 (f 0), .int .i64 (f 1)] (Box.made _ _ _ _ (fun j v h => by simpa using h))
  replace st := (st.alloc (.cells #[.int .i64 (f' 0), .int .i64 (f' 1)] 59)).addBox _ [.int .i64 (f' 0), .int .i64 (f' 1)] (Box.made _ _ _ _ (fun j v h => by simpa using h))
  simp only [World.size_alloc] at st
  have z0 : w.heap.size < w1.heap.size := by have := (st.box 3 _ rfl).1; have := (st.box 2 _ rfl).1; omega
  have stx := st.sub (bs' := [(w1.heap.size, [.int .i64 (f 0), .int .i64 (f 1)]), (w1.heap.size + 1, [.int .i64 (f' 0), .int .i64 (f' 1)])]) (ss' := []) (by intro b hb; simp only [List.mem_cons, List.not_mem_nil, or_false] at hb; rcases hb with rfl | rfl <;> simp) (by intro s hs; cases hs)
  clear st
  go_wp2_with fail
  go_loopg [19] 6 (fun k s19 wr => ∃ (i : Nat) (p q : Int), i + k = 6 ∧ s19 = .int .i64 (i : Int) ∧ (-40000 ≤ p ∧ p ≤ 40000 ∧ -40000 ≤ q ∧ q ≤ 40000 ∧ -40000 ≤ p - q ∧ p - q ≤ 40000) ∧ Hid (asA i (f 0) (f 1) = p ∧ asB i (f 0) (f 1) = q) ∧ Hid (∀ j, j < i → ¬ (asA j (f 0) (f 1) = f' 0 ∧ asB j (f 0) (f 1) = f' 1)) ∧ St w wr [(w1.heap.size, [.int .i64 p, .int .i64 q]), (w1.heap.size + 1, [.int .i64 (f' 0), .int .i64 (f' 1)])] [])
  case atStart => exact ⟨0, f 0, f 1, by omega, rfl, by omega, Lib.hid ⟨rfl, rfl⟩, Lib.hid (fun j h => by omega), stx⟩
  case round =>
    clear stx
    obtain ⟨i, p, q, hik, rfl, hbd, HP, HJ, st⟩ := hrel
    obtain ⟨c, hc⟩ : ∃ c, f' 0 = c := ⟨_, rfl⟩
    obtain ⟨d, hd⟩ : ∃ d, f' 1 = d := ⟨_, rfl⟩
    have HCD := Lib.hid (show f' 0 = c ∧ f' 1 = d from ⟨hc, hd⟩)
    rw [hc, hd] at st
    clear hc hd
    obtain ⟨x0, x1⟩ := (st.box 0 _ rfl).cell2
    have xz := (st.box 0 _ rfl).2.2
    have xs := (st.box 0 _ rfl).1
    dsimp only at x0 x1 xz xs
    obtain ⟨y0, y1⟩ := (st.box 1 _ rfl).cell2
    have yz := (st.box 1 _ rfl).2.2
    have ys := (st.box 1 _ rfl).1
    dsimp only at y0 y1 yz ys
    by_cases hi6 : i < 6
    · have hlt : decide ((i : Int) < 6) = true := decide_eq_true (by omega)
      have ROUND : ∀ (hne : ¬ (p = c ∧ q = d)), ∀ j, j < i + 1 → ¬ (asA j (f 0) (f 1) = f' 0 ∧ asB j (f 0) (f 1) = f' 1) := fun hne j hj => by
        rcases Nat.lt_or_ge j i with h | h
        · exact HJ.out j h
        · obtain rfl : j = i := by omega
          rw [HP.out.1, HP.out.2, HCD.out.1, HCD.out.2]
          exact hne
      have RO := Lib.hid ROUND
      clear ROUND
      by_cases e1 : p = c
      · by_cases e2 : q = d
        · have hyes : asoc (f 0) (f 1) (f' 0) (f' 1) := ⟨i, hi6, by rw [HP.out.1, HCD.out.1]; exact e1, by rw [HP.out.2, HCD.out.2]; exact e2⟩
          exact absurd hyes HA.out
        · have HE2 := Lib.hid (show ¬ (p = c ∧ q = d) from fun h => e2 h.2)
          subst e1
          go_wp2_with fail
          refine (turned_impl p q _ (by omega) (by omega) (by omega) (by omega)).mono ?_
          rintro e w2 ⟨rfl, b2⟩
          replace st := st.keep b2
          clear b2 x0 x1 xz xs y0 y1 yz ys
          obtain ⟨x0, x1⟩ := (st.box 0 _ rfl).cell2; have xz := (st.box 0 _ rfl).2.2; have xs := (st.box 0 _ rfl).1; (try dsimp only at x0 x1 xz xs)
          have st2 := st.setHead (u0 := .int .i64 (p - q)) (u1 := .int .i64 p) (by omega) (by intro q hq; simp only [List.mem_cons, List.not_mem_nil, or_false] at hq; rcases hq with rfl <;> dsimp only <;> omega) (by intro s hs; cases hs)
          go_wp2
          have hs := as_succ i (f 0) (f 1)
          rw [HP.out.1, HP.out.2] at hs
          go_roundg (gk - 1)
          case rel => exact ⟨i + 1, p - q, p, by omega, by go_num, by omega, Lib.hid hs, Lib.hid (RO.out HE2.out), by rw [HCD.out.1, HCD.out.2]; exact st2⟩
          case measure => omega
      · have HE2 := Lib.hid (show ¬ (p = c ∧ q = d) from fun h => e1 h.1)
        go_wp2_with fail
        refine (turned_impl p q _ (by omega) (by omega) (by omega) (by omega)).mono ?_
        rintro e w2 ⟨rfl, b2⟩
        replace st := st.keep b2
        clear b2 x0 x1 xz xs y0 y1 yz ys
        obtain ⟨x0, x1⟩ := (st.box 0 _ rfl).cell2; have xz := (st.box 0 _ rfl).2.2; have xs := (st.box 0 _ rfl).1; (try dsimp only at x0 x1 xz xs)
        have st2 := st.setHead (u0 := .int .i64 (p - q)) (u1 := .int .i64 p) (by omega) (by intro q hq; simp only [List.mem_cons, List.not_mem_nil, or_false] at hq; rcases hq with rfl <;> dsimp only <;> omega) (by intro s hs; cases hs)
        go_wp2
        have hs := as_succ i (f 0) (f 1)
        rw [HP.out.1, HP.out.2] at hs
        go_roundg (gk - 1)
        case rel => exact ⟨i + 1, p - q, p, by omega, by go_num, by omega, Lib.hid hs, Lib.hid (RO.out HE2.out), by rw [HCD.out.1, HCD.out.2]; exact st2⟩
        case measure => omega
    · obtain rfl : i = 6 := by omega
      have hlt : decide (((6 : Nat) : Int) < 6) = false := by decide
      have hno : ¬ asoc (f 0) (f 1) (f' 0) (f' 1) := fun ⟨k, hk, h1, h2⟩ => HJ.out k hk ⟨h1, h2⟩
      clear hno
      have BB := st.1
      have BBs := BB.size
      go_wp2
      go_ret2
      exact ⟨by first | rfl | simp, by go_grown⟩
theorem AreAssociate_spec_bad (x x' : Int) (w : World) (hs : Sl o w lo hi v n f) (hs' : Sl o' w lo' hi' v' n' f') (h : ¬ (CuP x n f ∧ CuP x' n' f')) :
    Calls Try.prog 46 #[.agg #[.int .i64 x, v], .agg #[.int .i64 x', v']] w fun e w' => e = .returned (.tuple #[.bool false, .int .i64 1]) ∧ Below w.heap.size w w' := by
  by_cases h1 : CuP x n f
  · have h2 : ¬ CuP x' n' f' := fun g => h ⟨h1, g⟩
    obtain ⟨av, cap, rfl⟩ := hs.shape
    obtain ⟨av', cap', rfl⟩ := hs'.shape
    have hh := hs.size
    have hh' := hs'.size
    have st := (((((St.start w).addSl ⟨o, lo, hi, .slice av n cap, n, f⟩ hs).addSl ⟨o', lo', hi', .slice av' n' cap', n', f'⟩ hs').alloc (.cells #[.int .i64 x, .slice av n cap] 27)).addBox w.heap.size [.int .i64 x, .slice av n cap] (Box.made _ _ _ _ (fun j v h => by simpa using h)))
    replace st := (st.alloc (.cells #[.int .i64 x', .slice av' n' cap'] 27)).addBox _ [.int .i64 x', .slice av' n' cap'] (Box.made _ _ _ _ (fun j v h => by simpa using h))
    simp only [World.size_alloc] at st
    have HC := Lib.hid h1
    have HC' := Lib.hid h2
    clear h h1 h2
    go_enter Try.func46, Try.ntmps46
    replace st := (st.alloc (.cells #[.int .i64 x, .slice av n cap, .int .i64 x', .slice av' n' cap'] 27)).addBox _ [.int .i64 x, .slice av n cap, .int .i64 x', .slice av' n' cap'] (Box.made _ _ _ _ (fun j v h => by simpa using h))
    simp only [World.size_alloc] at st
    have hbx := st.box 0 _ rfl
    have q0 := st.sl 1 ⟨o, lo, hi, .slice av n cap, n, f⟩ rfl
    have q1 := st.sl 0 ⟨o', lo', hi', .slice av' n' cap', n', f'⟩ rfl
    dsimp only at q0 q1
    dsimp only at hbx
    go_wp2_with fail
    refine (l09Code2_bad1 _ _ _ _ q0 q1 hbx HC.out HC'.out).mono ?_
    rintro e w1 ⟨rfl, b1⟩
    replace st := st.keep b1
    have hz1 := b1.size
    try simp only [World.size_alloc] at hz1
    clear b1 hbx q0 q1
    have BB := st.1
    have BBs := BB.size
    go_wp2
    go_ret2
    exact ⟨by first | rfl | simp, by go_grown⟩
  · have HC := Lib.hid h1
    clear h h1
    obtain ⟨av, cap, rfl⟩ := hs.shape
    obtain ⟨av', cap', rfl⟩ := hs'.shape
    have hh := hs.size
    have hh' := hs'.size
    have st := (((((St.start w).addSl ⟨o, lo, hi, .slice av n cap, n, f⟩ hs).addSl ⟨o', lo', hi', .slice av' n' cap', n', f'⟩ hs').alloc (.cells #[.int .i64 x, .slice av n cap] 27)).addBox w.heap.size [.int .i64 x, .slice av n cap] (Box.made _ _ _ _ (fun j v h => by simpa using h)))
    replace st := (st.alloc (.cells #[.int .i64 x', .slice av' n' cap'] 27)).addBox _ [.int .i64 x', .slice av' n' cap'] (Box.made _ _ _ _ (fun j v h => by simpa using h))
    simp only [World.size_alloc] at st
    go_enter Try.func46, Try.ntmps46
    replace st := (st.alloc (.cells #[.int .i64 x, .slice av n cap, .int .i64 x', .slice av' n' cap'] 27)).addBox _ [.int .i64 x, .slice av n cap, .int .i64 x', .slice av' n' cap'] (Box.made _ _ _ _ (fun j v h => by simpa using h))
    simp only [World.size_alloc] at st
    have hbx := st.box 0 _ rfl
    have q0 := st.sl 1 ⟨o, lo, hi, .slice av n cap, n, f⟩ rfl
    have q1 := st.sl 0 ⟨o', lo', hi', .slice av' n' cap', n', f'⟩ rfl
    dsimp only at q0 q1
    dsimp only at hbx
    go_wp2_with fail
    refine (l09Code2_bad0 _ _ _ _ q0 q1 hbx HC.out).mono ?_
    rintro e w1 ⟨rfl, b1⟩
    replace st := st.keep b1
    have hz1 := b1.size
    try simp only [World.size_alloc] at hz1
    clear b1 hbx q0 q1
    have BB := st.1
    have BBs := BB.size
    go_wp2
    go_ret2
    exact ⟨by first | rfl | simp, by go_grown⟩
theorem AreAssociate_spec_any (x x' : Int) (w : World) (hs : Sl o w lo hi v n f) (hs' : Sl o' w lo' hi' v' n' f') (h : CuP x n f) (h' : CuP x' n' f') (D : Bool) (hD : D = true ↔ asoc (f 0) (f 1) (f' 0) (f' 1)) :
    Calls Try.prog 46 #[.agg #[.int .i64 x, v], .agg #[.int .i64 x', v']] w fun e w' => e = .returned (.tuple #[.bool D, .int .i64 0]) ∧ Below w.heap.size w w' := by
  obtain rfl : n = 2 := h.2.1
  obtain rfl : n' = 2 := h'.2.1
  have hb := h.bd
  have hb' := h'.bd
  have z1 : nrm (f 0) (f 1) = 0 ↔ f 0 = 0 ∧ f 1 = 0 := nrm_eq0 _ _
  have z2 : nrm (f' 0) (f' 1) = 0 ↔ f' 0 = 0 ∧ f' 1 = 0 := nrm_eq0 _ _
  have HC := Lib.hid h
  have HC' := Lib.hid h'
  have HDD := Lib.hid hD
  clear h h' hD
  obtain ⟨av, cap, rfl⟩ := hs.shape
  obtain ⟨av', cap', rfl⟩ := hs'.shape
  have hh := hs.size
  have hh' := hs'.size
  have st := (((((St.start w).addSl ⟨o, lo, hi, .slice av 2 cap, 2, f⟩ hs).addSl ⟨o', lo', hi', .slice av' 2 cap', 2, f'⟩ hs').alloc (.cells #[.int .i64 x, .slice av 2 cap] 27)).addBox w.heap.size [.int .i64 x, .slice av 2 cap] (Box.made _ _ _ _ (fun j v h => by simpa using h)))
  replace st := (st.alloc (.cells #[.int .i64 x', .slice av' 2 cap'] 27)).addBox _ [.int .i64 x', .slice av' 2 cap'] (Box.made _ _ _ _ (fun j v h => by simpa using h))
  simp only [World.size_alloc] at st
  obtain ⟨N, hN⟩ : ∃ N, nrm (f 0) (f 1) = N := ⟨_, rfl⟩
  obtain ⟨N', hN'⟩ : ∃ N', nrm (f' 0) (f' 1) = N' := ⟨_, rfl⟩
  rw [hN] at z1
  rw [hN'] at z2
  have NN := Lib.hid (show nrm (f 0) (f 1) = N ∧ nrm (f' 0) (f' 1) = N' from ⟨hN, hN'⟩)
  have Z1 := Lib.hid z1
  have Z2 := Lib.hid z2
  clear z1 z2 hN hN'
  have NX := Lib.hid (show ∀ W : World, Sl o W lo hi (.slice av 2 cap) 2 f → Calls Try.prog 56 #[.agg #[.int .i64 x, .slice av 2 cap]] W fun e w' => e = .returned (.int .i64 N) ∧ Below W.heap.size W w' from fun W hq => by
    have h := l09Norm_any x W hq (by omega) (by omega) (by omega) (by omega)
    rw [NN.out.1] at h
    exact h)
  have NY := Lib.hid (show ∀ W : World, Sl o' W lo' hi' (.slice av' 2 cap') 2 f' → Calls Try.prog 56 #[.agg #[.int .i64 x', .slice av' 2 cap']] W fun e w' => e = .returned (.int .i64 N') ∧ Below W.heap.size W w' from fun W hq => by
    have h := l09Norm_any x' W hq (by omega) (by omega) (by omega) (by omega)
    rw [NN.out.2] at h
    exact h)
  go_enter Try.func46, Try.ntmps46
  replace st := (st.alloc (.cells #[.int .i64 x, .slice av 2 cap, .int .i64 x', .slice av' 2 cap'] 27)).addBox _ [.int .i64 x, .slice av 2 cap, .int .i64 x', .slice av' 2 cap'] (Box.made _ _ _ _ (fun j v h => by simpa using h))
  simp only [World.size_alloc] at st
  have hbx := st.box 0 _ rfl
  have q0 := st.sl 1 ⟨o, lo, hi, .slice av 2 cap, 2, f⟩ rfl
  have q1 := st.sl 0 ⟨o', lo', hi', .slice av' 2 cap', 2, f'⟩ rfl
  dsimp only at q0 q1
  dsimp only at hbx
  go_wp2_with fail
  refine (l09Code2_ok _ _ _ _ q0 q1 hbx HC.out HC'.out).mono ?_
  rintro e w1 ⟨rfl, b1⟩
  replace st := st.keep b1
  have hz1 := b1.size
  try simp only [World.size_alloc] at hz1
  clear b1 hbx q0 q1
  obtain ⟨x0, x1⟩ := (st.box 2 _ rfl).cell2
  have xz := (st.box 2 _ rfl).2.2
  have xs := (st.box 2 _ rfl).1
  dsimp only at x0 x1 xz xs
  obtain ⟨y0, y1⟩ := (st.box 1 _ rfl).cell2
  have yz := (st.box 1 _ rfl).2.2
  have ys := (st.box 1 _ rfl).1
  dsimp only at y0 y1 yz ys
  by_cases c1 : N = 0
  · have c1b : (N == 0) = true := by simpa using c1
    have hx := Z1.out.1 c1
    have HDv := Lib.hid (show (N == N') = D from by
      rw [c1]
      have e := HDD.out
      rw [hx.1, hx.2, asoc_zl, ← Z2.out] at e
      by_cases g : N' = 0
      · rw [e.2 g, g]; rfl
      · have : D = false := by cases D; rfl; exact absurd (e.1 rfl) g
        rw [this]; simpa using fun h => g h.symm)
    clear hx c1b
    subst c1
    have q2 := st.sl 1 ⟨o, lo, hi, .slice av 2 cap, 2, f⟩ rfl
    dsimp only at q2
    go_wp2_with fail
    refine (l09Norm_any _ _ q2 (by omega) (by omega) (by omega) (by omega)).mono ?_
    rw [NN.out.1]
    rintro e w2 ⟨rfl, b2⟩
    replace st := st.keep b2
    clear b2 q2
    clear x0 x1 xz xs y0 y1 yz ys
    obtain ⟨x0, x1⟩ := (st.box 2 _ rfl).cell2
    have xz := (st.box 2 _ rfl).2.2
    have xs := (st.box 2 _ rfl).1
    dsimp only at x0 x1 xz xs
    obtain ⟨y0, y1⟩ := (st.box 1 _ rfl).cell2
    have yz := (st.box 1 _ rfl).2.2
    have ys := (st.box 1 _ rfl).1
    dsimp only at y0 y1 yz ys
    go_wp2_with fail
    go_region_held3 (fun w' => w'.cell? ⟨w.heap.size, 0, none⟩ = some (.int .i64 x) ∧ w'.cell? ⟨w.heap.size, 1, none⟩ = some (.slice av 2 cap) ∧ w'.cell? ⟨w.heap.size + 1, 0, none⟩ = some (.int .i64 x') ∧ w'.cell? ⟨w.heap.size + 1, 1, none⟩ = some (.slice av' 2 cap'))
      (first | exact ⟨x0, x1, y0, y1⟩ | go_keep)
      (first
      | (go_at_call 56; refine (l09Norm_any _ _ (by first | (have qz := st.sl 1 ⟨o, lo, hi, .slice av 2 cap, 2, f⟩ rfl; dsimp only at qz; with_reducible exact qz) | (have qz := st.drew.sl 1 ⟨o, lo, hi, .slice av 2 cap, 2, f⟩ rfl; dsimp only at qz; with_reducible exact qz) | (have qz := st.sl 0 ⟨o', lo', hi', .slice av' 2 cap', 2, f'⟩ rfl; dsimp only at qz; with_reducible exact qz) | (have qz := st.drew.sl 0 ⟨o', lo', hi', .slice av' 2 cap', 2, f'⟩ rfl; dsimp only at qz; with_reducible exact qz)) (by omega) (by omega) (by omega) (by omega)).mono ?_; (first | rw [NN.out.1] | rw [NN.out.2]); rintro e wa ⟨rfl, ba⟩; (first | (with_reducible replace st := st.keep ba) | (with_reducible replace st := st.drew.keep ba)); obtain ⟨x0, x1⟩ := (st.box 2 _ rfl).cell2; have xz := (st.box 2 _ rfl).2.2; have xs := (st.box 2 _ rfl).1; (try dsimp only at x0 x1 xz xs); obtain ⟨y0, y1⟩ := (st.box 1 _ rfl).cell2; have yz := (st.box 1 _ rfl).2.2; have ys := (st.box 1 _ rfl).1; (try dsimp only at y0 y1 yz ys)))
    all_goals
      have BB := st.1
      have BBs := BB.size
      go_wp2
      go_ret2
      exact ⟨by first | (rw [← HDv.out]; rfl) | (rw [← HDv.out, c1b]; rfl) | (rw [← HDv.out, c1b]) | rfl | (simp; done) | (simp; omega), by go_grown⟩
  · have c1b : (N == 0) = false := by simpa using c1
    by_cases c2 : N' = 0
    · have c2b : (N' == 0) = true := by simpa using c2
      have HDv := Lib.hid (show (N == N') = D from by
        have e := HDD.out
        have : D = false := by
          cases D
          · rfl
          · have g := asoc_zr (a := f 0) (b := f 1) (by have := e.1 rfl; rwa [(Z2.out.1 c2).1, (Z2.out.1 c2).2] at this)
            exact absurd (Z1.out.2 g) c1
        rw [this, c2]; simpa using c1)
      clear c2b
      subst c2
      have q2 := st.sl 1 ⟨o, lo, hi, .slice av 2 cap, 2, f⟩ rfl
      dsimp only at q2
      go_wp2_with fail
      refine (l09Norm_any _ _ q2 (by omega) (by omega) (by omega) (by omega)).mono ?_
      rw [NN.out.1]
      rintro e w2 ⟨rfl, b2⟩
      replace st := st.keep b2
      clear b2 q2
      clear x0 x1 xz xs y0 y1 yz ys
      obtain ⟨x0, x1⟩ := (st.box 2 _ rfl).cell2
      have xz := (st.box 2 _ rfl).2.2
      have xs := (st.box 2 _ rfl).1
      dsimp only at x0 x1 xz xs
      obtain ⟨y0, y1⟩ := (st.box 1 _ rfl).cell2
      have yz := (st.box 1 _ rfl).2.2
      have ys := (st.box 1 _ rfl).1
      dsimp only at y0 y1 yz ys
      have q3 := st.sl 0 ⟨o', lo', hi', .slice av' 2 cap', 2, f'⟩ rfl
      dsimp only at q3
      go_wp2_with fail
      refine (l09Norm_any _ _ q3 (by omega) (by omega) (by omega) (by omega)).mono ?_
      rw [NN.out.2]
      rintro e w3 ⟨rfl, b3⟩
      replace st := st.keep b3
      clear b3 q3
      clear x0 x1 xz xs y0 y1 yz ys
      obtain ⟨x0, x1⟩ := (st.box 2 _ rfl).cell2
      have xz := (st.box 2 _ rfl).2.2
      have xs := (st.box 2 _ rfl).1
      dsimp only at x0 x1 xz xs
      obtain ⟨y0, y1⟩ := (st.box 1 _ rfl).cell2
      have yz := (st.box 1 _ rfl).2.2
      have ys := (st.box 1 _ rfl).1
      dsimp only at y0 y1 yz ys
      go_wp2_with fail
      go_region_held3 (fun w' => w'.cell? ⟨w.heap.size, 0, none⟩ = some (.int .i64 x) ∧ w'.cell? ⟨w.heap.size, 1, none⟩ = some (.slice av 2 cap) ∧ w'.cell? ⟨w.heap.size + 1, 0, none⟩ = some (.int .i64 x') ∧ w'.cell? ⟨w.heap.size + 1, 1, none⟩ = some (.slice av' 2 cap'))
        (first | exact ⟨x0, x1, y0, y1⟩ | go_keep)
        (first
        | (go_at_call 56; refine (l09Norm_any _ _ (by first | (have qz := st.sl 1 ⟨o, lo, hi, .slice av 2 cap, 2, f⟩ rfl; dsimp only at qz; with_reducible exact qz) | (have qz := st.drew.sl 1 ⟨o, lo, hi, .slice av 2 cap, 2, f⟩ rfl; dsimp only at qz; with_reducible exact qz) | (have qz := st.sl 0 ⟨o', lo', hi', .slice av' 2 cap', 2, f'⟩ rfl; dsimp only at qz; with_reducible exact qz) | (have qz := st.drew.sl 0 ⟨o', lo', hi', .slice av' 2 cap', 2, f'⟩ rfl; dsimp only at qz; with_reducible exact qz)) (by omega) (by omega) (by omega) (by omega)).mono ?_; (first | rw [NN.out.1] | rw [NN.out.2]); rintro e wa ⟨rfl, ba⟩; (first | (with_reducible replace st := st.keep ba) | (with_reducible replace st := st.drew.keep ba)); obtain ⟨x0, x1⟩ := (st.box 2 _ rfl).cell2; have xz := (st.box 2 _ rfl).2.2; have xs := (st.box 2 _ rfl).1; (try dsimp only at x0 x1 xz xs); obtain ⟨y0, y1⟩ := (st.box 1 _ rfl).cell2; have yz := (st.box 1 _ rfl).2.2; have ys := (st.box 1 _ rfl).1; (try dsimp only at y0 y1 yz ys)))
      all_goals
        have BB := st.1
        have BBs := BB.size
        go_wp2
        go_ret2
        exact ⟨by first | (rw [← HDv.out]; rfl) | (rw [← HDv.out, c1b]; rfl) | (rw [← HDv.out, c1b]) | rfl | (simp; done) | (simp; omega), by go_grown⟩
    · have c2b : (N' == 0) = false := by simpa using c2
      have HX0 := Lib.hid (show ¬ (f 0 = 0 ∧ f 1 = 0) from fun h => c1 (Z1.out.2 h))
      have HY0 := Lib.hid (show ¬ (f' 0 = 0 ∧ f' 1 = 0) from fun h => c2 (Z2.out.2 h))
      have HD := Lib.hid (show eqB 2 (two (chA (f 0) (f 1)) (chB (f 0) (f 1))) (two (chA (f' 0) (f' 1)) (chB (f' 0) (f' 1))) = D from by
        have e := HDD.out
        rw [asoc_ch HX0.out HY0.out] at e
        have e2 : eqB 2 (two (chA (f 0) (f 1)) (chB (f 0) (f 1))) (two (chA (f' 0) (f' 1)) (chB (f' 0) (f' 1))) = true ↔ D = true := by
          rw [eqB_iff, e]
          constructor
          · intro h; exact ⟨h 0 (by omega), h 1 (by omega)⟩
          · rintro ⟨h1, h2⟩ j hj
            have hj2 : j = 0 ∨ j = 1 := by omega
            rcases hj2 with rfl | rfl
            · exact h1
            · exact h2
        cases hh : eqB 2 (two (chA (f 0) (f 1)) (chB (f 0) (f 1))) (two (chA (f' 0) (f' 1)) (chB (f' 0) (f' 1))) <;> cases D <;> simp_all)
      have q2 := st.sl 1 ⟨o, lo, hi, .slice av 2 cap, 2, f⟩ rfl
      dsimp only at q2
      go_wp2_with fail
      refine (l09Norm_any _ _ q2 (by omega) (by omega) (by omega) (by omega)).mono ?_
      rw [NN.out.1]
      rintro e w2 ⟨rfl, b2⟩
      replace st := st.keep b2
      clear b2 q2
      clear x0 x1 xz xs y0 y1 yz ys
      obtain ⟨x0, x1⟩ := (st.box 2 _ rfl).cell2
      have xz := (st.box 2 _ rfl).2.2
      have xs := (st.box 2 _ rfl).1
      dsimp only at x0 x1 xz xs
      obtain ⟨y0, y1⟩ := (st.box 1 _ rfl).cell2
      have yz := (st.box 1 _ rfl).2.2
      have ys := (st.box 1 _ rfl).1
      dsimp only at y0 y1 yz ys
      have q3 := st.sl 0 ⟨o', lo', hi', .slice av' 2 cap', 2, f'⟩ rfl
      dsimp only at q3
      go_wp2_with fail
      refine (l09Norm_any _ _ q3 (by omega) (by omega) (by omega) (by omega)).mono ?_
      rw [NN.out.2]
      rintro e w3 ⟨rfl, b3⟩
      replace st := st.keep b3
      clear b3 q3
      clear x0 x1 xz xs y0 y1 yz ys
      obtain ⟨x0, x1⟩ := (st.box 2 _ rfl).cell2
      have xz := (st.box 2 _ rfl).2.2
      have xs := (st.box 2 _ rfl).1
      dsimp only at x0 x1 xz xs
      obtain ⟨y0, y1⟩ := (st.box 1 _ rfl).cell2
      have yz := (st.box 1 _ rfl).2.2
      have ys := (st.box 1 _ rfl).1
      dsimp only at y0 y1 yz ys
      go_wp2_with fail
      go_region_held3 (fun w' => w'.cell? ⟨w.heap.size, 0, none⟩ = some (.int .i64 x) ∧ w'.cell? ⟨w.heap.size, 1, none⟩ = some (.slice av 2 cap) ∧ w'.cell? ⟨w.heap.size + 1, 0, none⟩ = some (.int .i64 x') ∧ w'.cell? ⟨w.heap.size + 1, 1, none⟩ = some (.slice av' 2 cap'))
        (first | exact ⟨x0, x1, y0, y1⟩ | go_keep)
        (first
        | (go_at_call 81; have _g := sQ; refine (l01Same_any 3 _ (by first | with_reducible exact sQ | with_reducible exact sP.keep bQ sP.size) (by first | with_reducible exact sQ | with_reducible exact sP.keep bQ sP.size)).mono ?_; rw [HD.out]; rintro e wc ⟨rfl, bc⟩; (with_reducible replace st := st.keep bc); obtain ⟨x0, x1⟩ := (st.box 2 _ rfl).cell2; have xz := (st.box 2 _ rfl).2.2; have xs := (st.box 2 _ rfl).1; (try dsimp only at x0 x1 xz xs); obtain ⟨y0, y1⟩ := (st.box 1 _ rfl).cell2; have yz := (st.box 1 _ rfl).2.2; have ys := (st.box 1 _ rfl).1; (try dsimp only at y0 y1 yz ys))
        | (go_at_call 60; (fail_if_success (have _t := sP)); refine (l09Chosen_any _ _ (by first | (have qz := st.sl 1 ⟨o, lo, hi, .slice av 2 cap, 2, f⟩ rfl; dsimp only at qz; with_reducible exact qz) | (have qz := st.drew.sl 1 ⟨o, lo, hi, .slice av 2 cap, 2, f⟩ rfl; dsimp only at qz; with_reducible exact qz) | (have qz := st.sl 0 ⟨o', lo', hi', .slice av' 2 cap', 2, f'⟩ rfl; dsimp only at qz; with_reducible exact qz) | (have qz := st.drew.sl 0 ⟨o', lo', hi', .slice av' 2 cap', 2, f'⟩ rfl; dsimp only at qz; with_reducible exact qz)) (by omega) (by omega) (by omega) (by omega) (by first | exact HX0.out | exact HY0.out)).mono ?_; rintro e wp ⟨gp, kp, rfl, sP, bP⟩; (first | (with_reducible replace st := st.keep bP) | (with_reducible replace st := st.drew.keep bP)); obtain ⟨x0, x1⟩ := (st.box 2 _ rfl).cell2; have xz := (st.box 2 _ rfl).2.2; have xs := (st.box 2 _ rfl).1; (try dsimp only at x0 x1 xz xs); obtain ⟨y0, y1⟩ := (st.box 1 _ rfl).cell2; have yz := (st.box 1 _ rfl).2.2; have ys := (st.box 1 _ rfl).1; (try dsimp only at y0 y1 yz ys))
        | (go_at_call 60; have _t := sP; refine (l09Chosen_any _ _ (by first | (have qz := st.sl 1 ⟨o, lo, hi, .slice av 2 cap, 2, f⟩ rfl; dsimp only at qz; with_reducible exact qz) | (have qz := st.drew.sl 1 ⟨o, lo, hi, .slice av 2 cap, 2, f⟩ rfl; dsimp only at qz; with_reducible exact qz) | (have qz := st.sl 0 ⟨o', lo', hi', .slice av' 2 cap', 2, f'⟩ rfl; dsimp only at qz; with_reducible exact qz) | (have qz := st.drew.sl 0 ⟨o', lo', hi', .slice av' 2 cap', 2, f'⟩ rfl; dsimp only at qz; with_reducible exact qz)) (by omega) (by omega) (by omega) (by omega) (by first | exact HX0.out | exact HY0.out)).mono ?_; rintro e wq ⟨gq, kq, rfl, sQ, bQ⟩; (with_reducible replace st := st.keep bQ); obtain ⟨x0, x1⟩ := (st.box 2 _ rfl).cell2; have xz := (st.box 2 _ rfl).2.2; have xs := (st.box 2 _ rfl).1; (try dsimp only at x0 x1 xz xs); obtain ⟨y0, y1⟩ := (st.box 1 _ rfl).cell2; have yz := (st.box 1 _ rfl).2.2; have ys := (st.box 1 _ rfl).1; (try dsimp only at y0 y1 yz ys)))
      all_goals
        have BB := st.1
        have BBs := BB.size
        go_wp2
        go_ret2
        exact ⟨by first | rfl | simp, by go_grown⟩
end
end Go.Proofs.Ytfadlnbmpgbeaaa
