/- Cubic numbers of the program: opened, and closed again. -/
import Derived.Test.YtfadlnbmpgbeaaaEsC
import Derived.Test.YtfadlnbmpgbeaaaIs
namespace Go.Proofs.Ytfadlnbmpgbeaaa
open Go.RowKit Go.ChangeShapes Go.Sort
set_option linter.unusedVariables false
set_option linter.unusedSimpArgs false
set_option maxRecDepth 100000

/-- What is told of a cubic number. -/
def CuP (x : Int) (n : Nat) (f : Nat → Int) : Prop := x = 3 ∧ n = 2 ∧ Within f 2 10000
theorem phi3 : phiI 3 = 2 := by decide
theorem CuP.cy {x : Int} {n : Nat} {f : Nat → Int} (h : CuP x n f) : CyP x n f := by
  obtain ⟨rfl, rfl, h⟩ := h
  exact ⟨by omega, by omega, phi3.symm, fun j hj => by have := h j hj; omega⟩
theorem CuP.of {x : Int} {n : Nat} {f : Nat → Int} (h : CyP x n f) (h3 : x = 3) (hw : Within f n 10000) : CuP x n f := by
  subst h3
  have hn : n = 2 := h.2.2.1.trans phi3
  subst hn
  exact ⟨rfl, rfl, hw⟩
theorem CuP.bd {x : Int} {n : Nat} {f : Nat → Int} (h : CuP x n f) : -10000 ≤ f 0 ∧ f 0 ≤ 10000 ∧ -10000 ≤ f 1 ∧ f 1 ≤ 10000 := by
  have h0 := h.2.2 0 (by omega)
  have h1 := h.2.2 1 (by omega)
  omega
/-- Two numbers as a list. -/
def two (a b : Int) : Nat → Int := fun j => if j = 0 then a else b
theorem two_eta (f : Nat → Int) : ∀ j, j < 2 → two (f 0) (f 1) j = f j := by
  intro j hj
  unfold two
  split
  · rename_i h; rw [h]
  · have : j = 1 := by omega
    rw [this]
/-- A list of two numbers that the call itself has laid. -/
theorem two_made (w : World) (a b : Int) (ha : inR a) (hb : inR b) : Sl true (w.alloc (.cells #[.int .i64 a, .int .i64 b] 2)) w.heap.size (w.heap.size + 1) (.slice (some ⟨w.heap.size, 0, none⟩) 2 2) 2 (two a b) :=
  Sl.made w _ _ 2 2 _ (Nat.le_refl _) (by decide) (fun j hj => by unfold two; split <;> assumption) (fun j hj => by
    have h : j = 0 ∨ j = 1 := by omega
    rcases h with rfl | rfl <;> rfl)

theorem Sl.two {o : Bool} {w : World} {lo hi : Nat} {a : Option Addr} {cap : Nat} {f : Nat → Int} (h : Sl o w lo hi (.slice a 2 cap) 2 f) :
    ∃ g off, a = some ⟨g, off, none⟩ ∧ lo ≤ g ∧ g < hi ∧ 2 ≤ cap ∧ w.cell? ⟨g, off, none⟩ = some (.int .i64 (f 0)) ∧ w.cell? ⟨g, off + 1, none⟩ = some (.int .i64 (f 1)) ∧ inR (f 0) ∧ inR (f 1) := by
  obtain ⟨g, off, cap', hv, h1, h2, h3, _, hc, _⟩ := h.at (by omega)
  have c0 := hc 0 (by omega)
  rw [Nat.add_zero] at c0
  injection hv with e1 _ e3
  subst e3
  exact ⟨g, off, e1, h1, h2, h3, c0, hc 1 (by omega), h.bd 0 (by omega), h.bd 1 (by omega)⟩

section
variable {o : Bool} {lo hi n : Nat} {v : Value} {f : Nat → Int}
theorem IsCubicNumber_yes (x : Int) (w : World) (hs : Sl o w lo hi v n f) (h : CuP x n f) :
    Calls Try.prog 18 #[.agg #[.int .i64 x, v]] w fun e w' => e = .returned (.bool true) ∧ Below w.heap.size w w' := by
  obtain ⟨av, cap, rfl⟩ := hs.shape
  have hm := hs.len
  unfold maxLen at hm
  have st := ((((St.start w).addSl ⟨o, lo, hi, .slice av n cap, n, f⟩ hs).alloc (.cells #[.int .i64 x, .slice av n cap] 27)).addBox w.heap.size [.int .i64 x, .slice av n cap] (Box.made _ _ _ _ (fun j v h => by simpa using h)))
  have q0 := st.sl 0 ⟨o, lo, hi, .slice av n cap, n, f⟩ rfl
  dsimp only at q0
  have HC := Lib.hid h.cy
  have HW := Lib.hid (show Within f n 10000 by have e := h.2.1; rw [e]; exact h.2.2)
  have h3 : (x == 3) = true := by rw [h.1]; rfl
  clear h
  go_enter Try.func18, Try.ntmps18
  go_wp2_with fail
  refine (IsCyclo_yes _ _ q0 HC.out).mono ?_
  rintro e w1 ⟨rfl, b1⟩
  have st1 := st.keep b1
  clear st b1
  obtain ⟨x0, x1⟩ := (st1.box 0 _ rfl).cell2
  have q1 := st1.sl 0 ⟨o, lo, hi, .slice av n cap, n, f⟩ rfl
  dsimp only at q1 x0 x1
  go_wp2_with fail
  refine (areWithin_yes _ _ (by omega) (by omega) q1 HW.out).mono ?_
  rintro e w2 ⟨rfl, rfl⟩
  have BB := st1.1
  go_wp2
  go_ret
  exact ⟨rfl, by go_grown⟩
theorem IsCubicNumber_no (x : Int) (w : World) (hs : Sl o w lo hi v n f) (h : ¬ CuP x n f) :
    Calls Try.prog 18 #[.agg #[.int .i64 x, v]] w fun e w' => e = .returned (.bool false) ∧ Below w.heap.size w w' := by
  obtain ⟨av, cap, rfl⟩ := hs.shape
  have hm := hs.len
  unfold maxLen at hm
  have st := ((((St.start w).addSl ⟨o, lo, hi, .slice av n cap, n, f⟩ hs).alloc (.cells #[.int .i64 x, .slice av n cap] 27)).addBox w.heap.size [.int .i64 x, .slice av n cap] (Box.made _ _ _ _ (fun j v h => by simpa using h)))
  have q0 := st.sl 0 ⟨o, lo, hi, .slice av n cap, n, f⟩ rfl
  dsimp only at q0
  by_cases hc : CyP x n f
  · have HC := Lib.hid hc
    by_cases h3 : x = 3
    · have HW := Lib.hid (show ¬ Within f n 10000 from fun hw => h (CuP.of hc h3 hw))
      have h3b : (x == 3) = true := by rw [h3]; rfl
      clear h hc h3
      go_enter Try.func18, Try.ntmps18
      go_wp2_with fail
      refine (IsCyclo_yes _ _ q0 HC.out).mono ?_
      rintro e w1 ⟨rfl, b1⟩
      have st1 := st.keep b1
      clear st b1
      obtain ⟨x0, x1⟩ := (st1.box 0 _ rfl).cell2
      have q1 := st1.sl 0 ⟨o, lo, hi, .slice av n cap, n, f⟩ rfl
      dsimp only at q1 x0 x1
      go_wp2_with fail
      refine (areWithin_no _ _ (by omega) (by omega) q1 HW.out).mono ?_
      rintro e w2 ⟨rfl, rfl⟩
      have BB := st1.1
      go_wp2
      go_ret
      exact ⟨rfl, by go_grown⟩
    · have h3b : (x == 3) = false := by simpa using h3
      clear h hc h3
      go_enter Try.func18, Try.ntmps18
      go_wp2_with fail
      refine (IsCyclo_yes _ _ q0 HC.out).mono ?_
      rintro e w1 ⟨rfl, b1⟩
      have st1 := st.keep b1
      clear st b1
      obtain ⟨x0, x1⟩ := (st1.box 0 _ rfl).cell2
      dsimp only at x0 x1
      have BB := st1.1
      go_wp2
      go_ret
      exact ⟨rfl, by go_grown⟩
  · have HC := Lib.hid hc
    clear h hc
    go_enter Try.func18, Try.ntmps18
    go_wp2_with fail
    refine (IsCyclo_no _ _ q0 HC.out).mono ?_
    rintro e w1 ⟨rfl, b1⟩
    have st1 := st.keep b1
    clear st b1
    obtain ⟨x0, x1⟩ := (st1.box 0 _ rfl).cell2
    dsimp only at x0 x1
    have BB := st1.1
    go_wp2
    go_ret
    exact ⟨rfl, by go_grown⟩
end
end Go.Proofs.Ytfadlnbmpgbeaaa
