/- Least divisors of both, the primes above a prime number, of the program. -/
import Derived.Test.YtfadlnbmpgbeaaaEsT
import Derived.Handy
namespace Go.Proofs.Ytfadlnbmpgbeaaa
open Go.RowKit Go.ChangeShapes Go.Sort
set_option linter.unusedVariables false
set_option linter.unusedSimpArgs false
set_option maxRecDepth 100000
set_option maxHeartbeats 2000000

theorem leastDivisor_any (n L : Nat) (w : World) (h2 : 2 ≤ n) (hn : n ≤ 1000000000) (hL : isLD n L) :
    Calls Try.prog 101 #[.int .i64 (n : Int)] w fun e w' => e = .returned (.int .i64 (L : Int)) ∧ Below w.heap.size w w' := by
  have HL := Lib.hid hL
  clear hL
  go_enter Try.func101, Try.ntmps101
  go_wp2_with fail
  go_loopg [3] n (fun k s3 wr => ∃ d : Nat, d + k = n + 2 ∧ 2 ≤ d ∧ d ≤ n ∧ s3 = .int .i64 (d : Int) ∧ Hid (∀ e, 2 ≤ e → e < d → ¬ e ∣ n) ∧ Below w.heap.size w wr)
  case atStart => exact ⟨2, by omega, by omega, by omega, rfl, Lib.hid (fun e h1 h2 => by omega), Below.refl _ _⟩
  case round =>
    obtain ⟨d, hdk, hd2, hdn, rfl, HD, BB⟩ := hrel
    have hdd := Nat.mul_le_mul hdn hdn
    have hbd : (0 : Int) ≤ (d : Int) * (d : Int) ∧ (d : Int) * (d : Int) ≤ 1000000000000000000 := by
      have e := Nat.mul_le_mul (Nat.le_trans hdn hn) (Nat.le_trans hdn hn)
      rw [← Int.natCast_mul]
      omega
    have hd0 : ¬ d = 0 := by omega
    have hd0' : ¬ (d : Int) = 0 := by omega
    by_cases h1 : d * d ≤ n
    · have h1' : (d : Int) * (d : Int) ≤ (n : Int) := by rw [← Int.natCast_mul]; omega
      have h1b : decide ((d : Int) * (d : Int) ≤ (n : Int)) = true := decide_eq_true h1'
      have hlt : d < n := by
        have := Nat.mul_le_mul_left d hd2
        omega
      by_cases h3 : d ∣ n
      · have e := isLD_uniq (n := n) (d := d) (e := L) ⟨hd2, h3, HD.out⟩ HL.out
        have h4 : (n : Int) % (d : Int) = 0 := by rw [← Int.natCast_emod, Nat.mod_eq_zero_of_dvd h3]; rfl
        have h5 : (n : Int).tmod (d : Int) = 0 := by rw [Int.tmod_eq_emod_of_nonneg (by omega)]; exact h4
        have EE := Lib.hid e
        clear e h3 hdd
        go_wp2
        go_ret
        exact ⟨by rw [← EE.out]; rfl, BB⟩
      · have h4 : ¬ (n : Int) % (d : Int) = 0 := fun h => h3 (Int.natCast_dvd_natCast.1 (Int.dvd_of_emod_eq_zero h))
        have h5 : ¬ (n : Int).tmod (d : Int) = 0 := by rw [Int.tmod_eq_emod_of_nonneg (by omega)]; exact h4
        have H3 := Lib.hid h3
        clear h3 hdd
        go_wp2
        go_roundg (gk - 1)
        case rel => exact ⟨d + 1, by omega, by omega, by omega, by go_num, Lib.hid (fun e h1 h2 => by
          rcases Nat.lt_or_ge e d with h | h
          · exact HD.out e h1 h
          · obtain rfl : e = d := by omega
            exact H3.out), BB⟩
        case measure => omega
    · have h1' : ¬ (d : Int) * (d : Int) ≤ (n : Int) := by rw [← Int.natCast_mul]; omega
      have h1b : decide ((d : Int) * (d : Int) ≤ (n : Int)) = false := decide_eq_false h1'
      have e := isLD_uniq (isLD_self h2 (by omega) HD.out) HL.out
      have EE := Lib.hid e
      clear e hdd
      go_wp2
      go_ret
      exact ⟨by rw [← EE.out]; rfl, BB⟩
theorem l09Least_any (n L : Nat) (w : World) (h2 : 2 ≤ n) (hn : n ≤ 1000000000) (hL : isLD n L) :
    Calls Try.prog 97 #[.int .i64 (n : Int)] w fun e w' => e = .returned (.int .i64 (L : Int)) ∧ Below w.heap.size w w' := by
  have HL := Lib.hid hL
  clear hL
  go_enter Try.func97, Try.ntmps97
  go_wp2_with fail
  go_loopg [3] n (fun k s3 wr => ∃ d : Nat, d + k = n + 2 ∧ 2 ≤ d ∧ d ≤ n ∧ s3 = .int .i64 (d : Int) ∧ Hid (∀ e, 2 ≤ e → e < d → ¬ e ∣ n) ∧ Below w.heap.size w wr)
  case atStart => exact ⟨2, by omega, by omega, by omega, rfl, Lib.hid (fun e h1 h2 => by omega), Below.refl _ _⟩
  case round =>
    obtain ⟨d, hdk, hd2, hdn, rfl, HD, BB⟩ := hrel
    have hdd := Nat.mul_le_mul hdn hdn
    have hbd : (0 : Int) ≤ (d : Int) * (d : Int) ∧ (d : Int) * (d : Int) ≤ 1000000000000000000 := by
      have e := Nat.mul_le_mul (Nat.le_trans hdn hn) (Nat.le_trans hdn hn)
      rw [← Int.natCast_mul]
      omega
    have hd0 : ¬ d = 0 := by omega
    have hd0' : ¬ (d : Int) = 0 := by omega
    by_cases h1 : d * d ≤ n
    · have h1' : (d : Int) * (d : Int) ≤ (n : Int) := by rw [← Int.natCast_mul]; omega
      have h1b : decide ((d : Int) * (d : Int) ≤ (n : Int)) = true := decide_eq_true h1'
      have hlt : d < n := by
        have := Nat.mul_le_mul_left d hd2
        omega
      by_cases h3 : d ∣ n
      · have e := isLD_uniq (n := n) (d := d) (e := L) ⟨hd2, h3, HD.out⟩ HL.out
        have h4 : (n : Int) % (d : Int) = 0 := by rw [← Int.natCast_emod, Nat.mod_eq_zero_of_dvd h3]; rfl
        have h5 : (n : Int).tmod (d : Int) = 0 := by rw [Int.tmod_eq_emod_of_nonneg (by omega)]; exact h4
        have EE := Lib.hid e
        clear e h3 hdd
        go_wp2
        go_ret
        exact ⟨by rw [← EE.out]; rfl, BB⟩
      · have h4 : ¬ (n : Int) % (d : Int) = 0 := fun h => h3 (Int.natCast_dvd_natCast.1 (Int.dvd_of_emod_eq_zero h))
        have h5 : ¬ (n : Int).tmod (d : Int) = 0 := by rw [Int.tmod_eq_emod_of_nonneg (by omega)]; exact h4
        have H3 := Lib.hid h3
        clear h3 hdd
        go_wp2
        go_roundg (gk - 1)
        case rel => exact ⟨d + 1, by omega, by omega, by omega, by go_num, Lib.hid (fun e h1 h2 => by
          rcases Nat.lt_or_ge e d with h | h
          · exact HD.out e h1 h
          · obtain rfl : e = d := by omega
            exact H3.out), BB⟩
        case measure => omega
    · have h1' : ¬ (d : Int) * (d : Int) ≤ (n : Int) := by rw [← Int.natCast_mul]; omega
      have h1b : decide ((d : Int) * (d : Int) ≤ (n : Int)) = false := decide_eq_false h1'
      have e := isLD_uniq (isLD_self h2 (by omega) HD.out) HL.out
      have EE := Lib.hid e
      clear e hdd
      go_wp2
      go_ret
      exact ⟨by rw [← EE.out]; rfl, BB⟩
theorem primesAbove_two (q : Nat) (w : World) (h2 : 2 ≤ q) (hq : q ≤ 1000000000) (h3 : q % 3 = 2) :
    Calls Try.prog 100 #[.int .i64 (q : Int)] w fun e w' => ∃ g, e = .returned (.slice (some ⟨g, 0, none⟩) 1 1) ∧ w'.cell? ⟨g, 0, none⟩ = some (.iface 99 (.int .i64 (q : Int))) ∧ Below w.heap.size w w' := by
  have h4 : (q : Int) % 3 = 2 := by omega
  have h5 : (q : Int).tmod 3 = 2 := by rw [Int.tmod_eq_emod_of_nonneg (by omega)]; exact h4
  go_enter Try.func100, Try.ntmps100
  go_wp2
  go_ret
  refine ⟨_, rfl, ?_, by go_grown⟩
  exact (Box.made w #[.iface 99 (.int .i64 (q : Int))] 83 [.iface 99 (.int .i64 (q : Int))] (fun j v h => by simpa using h)).2.1 0 _ rfl
theorem St.setOne {W w : World} {bs : List (Nat × List Value)} {ss : List SlF} {b i : Nat} {v0 v1 u : Value} (h : St W w ((b, [v0, v1]) :: bs) ss) (hi : i < 2) (hb : W.heap.size ≤ b) (hbs : ∀ x ∈ bs, x.1 < b ∨ b + 1 ≤ x.1) (hss : ∀ s ∈ ss, s.hi ≤ b ∨ b + 1 ≤ s.lo) :
    St W (w.setCell ⟨b, i, none⟩ u) ((b, [v0, v1].set i u) :: bs) ss := by
  have hf : Frame b (b + 1) w (w.setCell ⟨b, i, none⟩ u) := (Frame.refl b (b + 1) w).setCell (Nat.le_refl _) (Nat.lt_succ_self _) _
  have h1 : St W w bs ss := ⟨h.1, fun x hx => h.2.1 x (List.mem_cons_of_mem _ hx), h.2.2⟩
  have hx := h.2.1 _ List.mem_cons_self
  dsimp only at hx
  refine (h1.write hf hb hbs hss).addBox b _ ⟨by simpa [World.setCell] using hx.1, fun j v hv => ?_, fun k => (World.frozen?_setCell _ _ _ _).trans (hx.2.2 k)⟩
  have c0 := hx.2.1 0 _ rfl
  have c1 := hx.2.1 1 _ rfl
  have hi2 : i = 0 ∨ i = 1 := by omega
  rcases hi2 with rfl | rfl
  · match j, hv with
    | 0, hv => cases hv; exact World.cell?_setCell_same _ _ _ c0
    | 1, hv => cases hv; exact (setCell_ne _ _ _ _ _ (by omega)).trans c1
    | j + 2, hv => simp at hv
  · match j, hv with
    | 0, hv => cases hv; exact (setCell_ne _ _ _ _ _ (by omega)).trans c0
    | 1, hv => cases hv; exact World.cell?_setCell_same _ _ _ c1
    | j + 2, hv => simp at hv
/-- How many chosen primes have the norm of (A, B). -/
def pcn (A B : Nat) : Nat := if 2 * B = A then 1 else 2
/-- The second one, where there are two. -/
def pSec (w : World) (g A B : Nat) : Prop := ¬ 2 * B = A → w.cell? ⟨g, 1, none⟩ = some (.iface 101 (.agg #[.int .i64 (A : Int), .int .i64 ((A : Int) - B)]))
theorem primesAbove_split (p A B : Nat) (w : World) (hP : isP p) (hp : p ≤ 300000000) (h3 : ¬ p % 3 = 2) (hF : Fst p A B) :
    Calls Try.prog 100 #[.int .i64 (p : Int)] w fun e w' => ∃ g m, e = .returned (.slice (some ⟨g, 0, none⟩) m m) ∧ m = pcn A B ∧ w'.cell? ⟨g, 0, none⟩ = some (.iface 101 (.agg #[.int .i64 (A : Int), .int .i64 (B : Int)])) ∧ pSec w' g A B ∧ Below w.heap.size w w' := by
  have h2 := hP.1
  have h4 : ¬ (p : Int) % 3 = 2 := by omega
  have h5 : ¬ (p : Int).tmod 3 = 2 := by rw [Int.tmod_eq_emod_of_nonneg (by omega)]; exact h4
  have h4b : ((p : Int) % 3 == 2) = false := by simpa using h4
  have hAB := hF.bd hp
  have hA1 := hF.pos
  have hh := hF.half
  have HF := Lib.hid hF
  have HP := Lib.hid hP
  clear hF hP h3
  have st := ((St.start w).alloc (.cells #[.int .i64 1, .int .i64 0] 59)).addBox w.heap.size [.int .i64 1, .int .i64 0] (Box.made _ _ _ _ (fun j v h => by simpa using h))
  go_enter Try.func100, Try.ntmps100
  go_wp2_with fail
  go_loopg [] (A + B) (fun k wr => ∃ a b : Nat, 1 ≤ a ∧ a ≤ A ∧ b ≤ B ∧ a + b + k = A + B + 1 ∧ St w wr [(w.heap.size, [.int .i64 (a : Int), .int .i64 (b : Int)])] [])
  case atStart => exact ⟨1, 0, by omega, by omega, by omega, by omega, st⟩
  case round =>
    clear st
    obtain ⟨a, b, ha1, ha, hb, hk, st⟩ := hrel
    obtain ⟨N, hN⟩ : ∃ N, nrm (a : Int) (b : Int) = N := ⟨_, rfl⟩
    have hNb := nrm_le (a := (a : Int)) (b := (b : Int)) (M := 20000) (by omega) (by omega) (by omega) (by omega)
    rw [hN] at hNb
    have HN := Lib.hid hN
    have NM := Lib.hid (show ∀ w' : World, Calls Try.prog 58 #[.agg #[.int .i64 (a : Int), .int .i64 (b : Int)]] w' fun e w'' => e = .returned (.int .i64 N) ∧ Below w'.heap.size w' w'' from fun w' => by
      have h := norm_impl a b w' (by omega) (by omega) (by omega) (by omega)
      rw [hN] at h
      exact h)
    clear hN
    obtain ⟨x0, x1⟩ := (st.box 0 _ rfl).cell2
    have xz := (st.box 0 _ rfl).2.2
    have xs := (st.box 0 _ rfl).1
    dsimp only at x0 x1 xz xs
    go_wp2_with fail
    refine (NM.out _).mono ?_
    rintro e w1 ⟨rfl, b1⟩
    replace st := st.keep b1
    clear b1 x0 x1 xz xs
    obtain ⟨x0, x1⟩ := (st.box 0 _ rfl).cell2
    have xz := (st.box 0 _ rfl).2.2
    have xs := (st.box 0 _ rfl).1
    dsimp only at x0 x1 xz xs
    by_cases hz : N = (p : Int)
    · have hzb : (N == (p : Int)) = true := by simpa using hz
      obtain ⟨e1, e2⟩ := stair_end HP.out HF.out ha1 ha hb (HN.out.trans hz)
      subst e1
      subst e2
      clear HN NM hNb hk
      by_cases hd : 2 * b = a
      · have hd1 : (a : Int) - b = b := by omega
        have BB := st.1
        have D1 := Lib.hid hd1
        have HD := Lib.hid hd
        have hd3 : ((a : Int) - b == (b : Int)) = true := by simpa using hd1
        clear hd hd1 hh
        go_wp2
        go_ret
        refine ⟨_, _, rfl, (show _ = pcn _ _ from (if_pos HD.out).symm), ?_, fun h => absurd HD.out h, by go_grown⟩
        have hx := Box.made (w1.alloc (.cells #[.int .i64 (a : Int), .int .i64 ((a : Int) - b)] 59)) #[.iface 101 (.agg #[.int .i64 (a : Int), .int .i64 (b : Int)])] 83 [.iface 101 (.agg #[.int .i64 (a : Int), .int .i64 (b : Int)])] (fun j v h => by simpa using h)
        simp only [World.size_alloc] at hx
        exact hx.2.1 0 _ rfl
      · have hd1 : ¬ (a : Int) - b = b := by omega
        have hd2 : ((a : Int) - b == (b : Int)) = false := by simpa using hd1
        have HD := Lib.hid hd
        clear hd
        have BB := st.1
        go_wp2
        go_ret
        have hx := Box.made ((w1.alloc (.cells #[.int .i64 (a : Int), .int .i64 ((a : Int) - b)] 59))) #[.iface 101 (.agg #[.int .i64 (a : Int), .int .i64 (b : Int)]), .iface 101 (.agg #[.int .i64 (a : Int), .int .i64 ((a : Int) - b)])] 83 [.iface 101 (.agg #[.int .i64 (a : Int), .int .i64 (b : Int)]), .iface 101 (.agg #[.int .i64 (a : Int), .int .i64 ((a : Int) - b)])] (fun j v h => by simpa using h)
        simp only [World.size_alloc] at hx
        refine ⟨_, _, rfl, (show _ = pcn _ _ from (if_neg HD.out).symm), ?_, fun _ => ?_, by go_grown⟩
        · exact hx.2.1 0 _ rfl
        · exact hx.2.1 1 _ rfl
    · have hzb : (N == (p : Int)) = false := by simpa using hz
      go_wp2_with fail
      refine (NM.out _).mono ?_
      rintro e w2 ⟨rfl, b2⟩
      replace st := st.keep b2
      clear b2 x0 x1 xz xs
      obtain ⟨x0, x1⟩ := (st.box 0 _ rfl).cell2
      have xz := (st.box 0 _ rfl).2.2
      have xs := (st.box 0 _ rfl).1
      dsimp only at x0 x1 xz xs
      by_cases hl : N < (p : Int)
      · have h6 := stair_up HF.out ha hb (by rw [HN.out]; exact hl)
        have hlb : decide (N < (p : Int)) = true := decide_eq_true hl
        have st2 := st.setOne (i := 0) (u := .int .i64 ((a : Int) + 1)) (by omega) (Nat.le_refl _) (by intro q hq; cases hq) (by intro s hs; cases hs)
        go_wp2
        go_roundg (gk - 1)
        case rel => exact ⟨a + 1, b, by omega, by omega, by omega, by omega, st2⟩
        case measure => omega
      · have h6 := stair_right HF.out ha hb (by rw [HN.out]; omega)
        have hlb : decide (N < (p : Int)) = false := decide_eq_false hl
        have st2 := st.setOne (i := 1) (u := .int .i64 ((b : Int) + 1)) (by omega) (Nat.le_refl _) (by intro q hq; cases hq) (by intro s hs; cases hs)
        go_wp2
        go_roundg (gk - 1)
        case rel => exact ⟨a, b + 1, by omega, by omega, by omega, by omega, st2⟩
        case measure => omega
end Go.Proofs.Ytfadlnbmpgbeaaa
