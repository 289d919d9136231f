/- Two Gauss numbers of the same kind; what fits; the first row that doesn't. -/
import Derived.Test.YthmhjnholhiohaaGSq
namespace Go.Proofs.Ythmhjnholhiohaa
open Go.RowKit Go.ChangeShapes Go.Sort Go.WideShapes
set_option linter.unusedVariables false
set_option linter.unusedSimpArgs false

theorem first_fail {P : Nat → Prop} : ∀ m, (∀ i, i < m → P i) ∨ ∃ i0, i0 < m ∧ ¬ P i0 ∧ ∀ i, i < i0 → P i
  | 0 => .inl fun i hi => absurd hi (Nat.not_lt_zero _)
  | m + 1 => by
    rcases first_fail (P := P) m with h | ⟨i0, h1, h2, h3⟩
    · by_cases hm : P m
      · exact .inl fun i hi => by
          by_cases e : i = m
          · subst e; exact hm
          · exact h i (by omega)
      · exact .inr ⟨m, by omega, hm, h⟩
    · exact .inr ⟨i0, by omega, h2, h3⟩

open Classical in
noncomputable def gpC (p n : Int) (m : Nat) (ln : Nat → Nat) (F : Nat → Nat → Int) (q k : Int) (m' : Nat) (ln' : Nat → Nat) (F' : Nat → Nat → Int) : Int :=
  if GsP p n m ln F ∧ GsP q k m' ln' F' then (if p = q ∧ n = k then 0 else 2) else 1
section
variable {p n q k : Int} {m m' : Nat} {ln ln' : Nat → Nat} {F F' : Nat → Nat → Int}
theorem gpC_ok (h : GsP p n m ln F) (h' : GsP q k m' ln' F') (e1 : p = q) (e2 : n = k) : gpC p n m ln F q k m' ln' F' = 0 := by
  unfold gpC; rw [if_pos ⟨h, h'⟩, if_pos ⟨e1, e2⟩]
theorem gpC_kind (h : GsP p n m ln F) (h' : GsP q k m' ln' F') (e : ¬ (p = q ∧ n = k)) : gpC p n m ln F q k m' ln' F' = 2 := by
  unfold gpC; rw [if_pos ⟨h, h'⟩, if_neg e]
theorem gpC_bad (h : ¬ (GsP p n m ln F ∧ GsP q k m' ln' F')) : gpC p n m ln F q k m' ln' F' = 1 := by
  unfold gpC; rw [if_neg h]
end

section
variable {o o' : Bool} {lo hi lo' hi' : Nat} {V V' : Value} {m m' : Nat} {ln ln' : Nat → Nat} {F F' : Nat → Nat → Int}

set_option maxRecDepth 100000 in
set_option maxHeartbeats 1000000 in
theorem gaussPairCode_any (x y q k : Int) (w : World) (hs : Rw o w lo hi V m ln F) (ht : Rw o' w lo' hi' V' m' ln' F') :
    Calls Try.prog 91 #[.agg #[.int .i64 x, .int .i64 y, V], .agg #[.int .i64 q, .int .i64 k, V']] w fun e w' => e = .returned (.int .i64 (gpC x y m ln F q k m' ln' F')) ∧ Below w.heap.size w w' := by
  obtain ⟨a, cap, rfl⟩ := hs.shape
  obtain ⟨b, cap', rfl⟩ := ht.shape
  have st0 := (((StR.start w).addRw ⟨o, lo, hi, .slice a m cap, m, ln, F⟩ hs).addRw ⟨o', lo', hi', .slice b m' cap', m', ln', F'⟩ ht).boxNew3 (.int .i64 x) (.int .i64 y) (.slice a m cap) 27
  replace st0 := st0.boxNew3 (.int .i64 q) (.int .i64 k) (.slice b m' cap') 27
  simp only [World.size_alloc] at st0
  clear hs ht
  obtain ⟨c0, c1, c2⟩ := (st0.box 1 (w.heap.size, [.int .i64 x, .int .i64 y, .slice a m cap]) rfl).c3
  have q0 := st0.rw 1 ⟨o, lo, hi, .slice a m cap, m, ln, F⟩ rfl
  dsimp only at q0
  go_enter Try.func91, Try.ntmps91
  go_wp2_with fail
  refine (IsGauss_any _ _ _ q0).mono ?_
  rintro e w1 ⟨rfl, b1⟩
  have st1 := st0.keep b1
  have hz1 := b1.size
  clear st0 b1 q0 c0 c1 c2
  have BB := st1.1
  by_cases hx : GsP x y m ln F
  · have HX := Lib.hid hx
    rw [gsB_yes hx]
    clear hx
    obtain ⟨c0, c1, c2⟩ := (st1.box 0 (w.heap.size + 1, [.int .i64 q, .int .i64 k, .slice b m' cap']) rfl).c3
    have q1 := st1.rw 0 ⟨o', lo', hi', .slice b m' cap', m', ln', F'⟩ rfl
    dsimp only at q1
    go_wp2_with fail
    refine (IsGauss_any _ _ _ q1).mono ?_
    rintro e w2 ⟨rfl, b2⟩
    have st2 := st1.keep b2
    clear st1 b2 q1 c0 c1 c2 BB
    have BB := st2.1
    by_cases hy : GsP q k m' ln' F'
    · have HY := Lib.hid hy
      rw [gsB_yes hy]
      clear hy
      obtain ⟨c0, c1, c2⟩ := (st2.box 0 (w.heap.size + 1, [.int .i64 q, .int .i64 k, .slice b m' cap']) rfl).c3
      obtain ⟨d0, d1, d2⟩ := (st2.box 1 (w.heap.size, [.int .i64 x, .int .i64 y, .slice a m cap]) rfl).c3
      by_cases e1 : x = q
      · subst e1
        by_cases e2 : y = k
        · subst e2
          have HG := Lib.hid (gpC_ok HX.out HY.out rfl rfl)
          go_wp2
          go_ret
          exact ⟨by rw [HG.out]; rfl, BB⟩
        · have HG := Lib.hid (gpC_kind HX.out HY.out (fun h => e2 h.2))
          go_wp2
          go_ret
          exact ⟨by rw [HG.out]; rfl, BB⟩
      · have HG := Lib.hid (gpC_kind HX.out HY.out (fun h => e1 h.1))
        go_wp2
        go_ret
        exact ⟨by rw [HG.out]; rfl, BB⟩
    · have HG := Lib.hid (gpC_bad (fun h : GsP x y m ln F ∧ GsP q k m' ln' F' => hy h.2))
      rw [gsB_no hy]
      clear hy
      go_wp2
      go_ret
      exact ⟨by rw [HG.out]; rfl, BB⟩
  · have HG := Lib.hid (gpC_bad (fun h : GsP x y m ln F ∧ GsP q k m' ln' F' => hx h.1))
    rw [gsB_no hx]
    clear hx
    go_wp2
    go_ret
    exact ⟨by rw [HG.out]; rfl, BB⟩

set_option maxRecDepth 100000 in
set_option maxHeartbeats 1000000 in
theorem l05Like_any (x y q k : Int) (w : World) (hs : Rw o w lo hi V m ln F) (ht : Rw o' w lo' hi' V' m' ln' F') :
    Calls Try.prog 86 #[.agg #[.int .i64 x, .int .i64 y, V], .agg #[.int .i64 q, .int .i64 k, V']] w fun e w' => e = .returned (.int .i64 (gpC x y m ln F q k m' ln' F')) ∧ Below w.heap.size w w' := by
  obtain ⟨a, cap, rfl⟩ := hs.shape
  obtain ⟨b, cap', rfl⟩ := ht.shape
  have st0 := (((StR.start w).addRw ⟨o, lo, hi, .slice a m cap, m, ln, F⟩ hs).addRw ⟨o', lo', hi', .slice b m' cap', m', ln', F'⟩ ht).boxNew3 (.int .i64 x) (.int .i64 y) (.slice a m cap) 27
  replace st0 := st0.boxNew3 (.int .i64 q) (.int .i64 k) (.slice b m' cap') 27
  simp only [World.size_alloc] at st0
  clear hs ht
  obtain ⟨c0, c1, c2⟩ := (st0.box 1 (w.heap.size, [.int .i64 x, .int .i64 y, .slice a m cap]) rfl).c3
  have q0 := st0.rw 1 ⟨o, lo, hi, .slice a m cap, m, ln, F⟩ rfl
  dsimp only at q0
  go_enter Try.func86, Try.ntmps86
  go_wp2_with fail
  refine (l05Is_any _ _ _ q0).mono ?_
  rintro e w1 ⟨rfl, b1⟩
  have st1 := st0.keep b1
  have hz1 := b1.size
  clear st0 b1 q0 c0 c1 c2
  have BB := st1.1
  by_cases hx : GsP x y m ln F
  · have HX := Lib.hid hx
    rw [gsB_yes hx]
    clear hx
    obtain ⟨c0, c1, c2⟩ := (st1.box 0 (w.heap.size + 1, [.int .i64 q, .int .i64 k, .slice b m' cap']) rfl).c3
    have q1 := st1.rw 0 ⟨o', lo', hi', .slice b m' cap', m', ln', F'⟩ rfl
    dsimp only at q1
    go_wp2_with fail
    refine (l05Is_any _ _ _ q1).mono ?_
    rintro e w2 ⟨rfl, b2⟩
    have st2 := st1.keep b2
    clear st1 b2 q1 c0 c1 c2 BB
    have BB := st2.1
    by_cases hy : GsP q k m' ln' F'
    · have HY := Lib.hid hy
      rw [gsB_yes hy]
      clear hy
      obtain ⟨c0, c1, c2⟩ := (st2.box 0 (w.heap.size + 1, [.int .i64 q, .int .i64 k, .slice b m' cap']) rfl).c3
      obtain ⟨d0, d1, d2⟩ := (st2.box 1 (w.heap.size, [.int .i64 x, .int .i64 y, .slice a m cap]) rfl).c3
      by_cases e1 : x = q
      · subst e1
        by_cases e2 : y = k
        · subst e2
          have HG := Lib.hid (gpC_ok HX.out HY.out rfl rfl)
          go_wp2
          go_ret
          exact ⟨by rw [HG.out]; rfl, BB⟩
        · have HG := Lib.hid (gpC_kind HX.out HY.out (fun h => e2 h.2))
          go_wp2
          go_ret
          exact ⟨by rw [HG.out]; rfl, BB⟩
      · have HG := Lib.hid (gpC_kind HX.out HY.out (fun h => e1 h.1))
        go_wp2
        go_ret
        exact ⟨by rw [HG.out]; rfl, BB⟩
    · have HG := Lib.hid (gpC_bad (fun h : GsP x y m ln F ∧ GsP q k m' ln' F' => hy h.2))
      rw [gsB_no hy]
      clear hy
      go_wp2
      go_ret
      exact ⟨by rw [HG.out]; rfl, BB⟩
  · have HG := Lib.hid (gpC_bad (fun h : GsP x y m ln F ∧ GsP q k m' ln' F' => hx h.1))
    rw [gsB_no hx]
    clear hx
    go_wp2
    go_ret
    exact ⟨by rw [HG.out]; rfl, BB⟩


set_option maxRecDepth 100000 in
theorem l05Told_yes (x y : Int) (w : World) (hs : Rw o w lo hi V m ln F) (h : GsP x y m ln F) :
    Calls Try.prog 89 #[.agg #[.int .i64 x, .int .i64 y, V]] w fun e w' => e = .returned (.tuple #[.agg #[.int .i64 x, .int .i64 y, V], .int .i64 0]) ∧ Below w.heap.size w w' := by
  obtain ⟨a, cap, rfl⟩ := hs.shape
  have hml := hs.len
  unfold maxLen at hml
  have hh := hs.size
  have st0 := ((StR.start w).addRw ⟨o, lo, hi, .slice a m cap, m, ln, F⟩ hs).boxNew3 (.int .i64 x) (.int .i64 y) (.slice a m cap) 27
  replace st0 := st0.boxNew3 (.int .i64 0) (.int .i64 0) (.slice none 0 0) 27
  simp only [World.size_alloc] at st0
  have HG := Lib.hid (gsB_yes h)
  clear hs h
  obtain ⟨c0, c1, c2⟩ := (st0.box 1 (w.heap.size, [.int .i64 x, .int .i64 y, .slice a m cap]) rfl).c3
  go_enter Try.func89, Try.ntmps89
  have q0 := st0.rw 0 ⟨o, lo, hi, .slice a m cap, m, ln, F⟩ rfl
  dsimp only at q0
  go_wp2_with fail
  refine (l05Is_any _ _ _ q0).mono ?_
  rintro e w1 ⟨rfl, b1⟩
  rw [HG.out]
  have st1 := st0.keep b1
  have hz1 := b1.size
  simp only [World.size_alloc] at hz1
  clear st0 b1 q0
  clear c0 c1 c2
  obtain ⟨c0, c1, c2⟩ := (st1.box 1 (w.heap.size, [.int .i64 x, .int .i64 y, .slice a m cap]) rfl).c3
  obtain ⟨d0, d1, d2⟩ := (st1.box 0 (w.heap.size + 1, [.int .i64 0, .int .i64 0, .slice none 0 0]) rfl).c3
  have dz := (st1.box 0 (w.heap.size + 1, [.int .i64 0, .int .i64 0, .slice none 0 0]) rfl).2.2
  dsimp only at dz
  have BB := st1.1
  go_wp2
  refine bodyPost_ret (v := .tuple #[.agg #[.int .i64 x, .int .i64 y, .slice a m cap], .int .i64 0]) (by simp [results, Try.results89, go_sem, d0, d1, d2]) rfl ?_
  exact ⟨rfl, by go_grown⟩


set_option maxRecDepth 100000 in
theorem l05Told_no (x y : Int) (w : World) (hs : Rw o w lo hi V m ln F) (h : ¬ GsP x y m ln F) :
    Calls Try.prog 89 #[.agg #[.int .i64 x, .int .i64 y, V]] w fun e w' => e = .returned (failG 3) ∧ Below w.heap.size w w' := by
  obtain ⟨a, cap, rfl⟩ := hs.shape
  have hml := hs.len
  unfold maxLen at hml
  have hh := hs.size
  have st0 := ((StR.start w).addRw ⟨o, lo, hi, .slice a m cap, m, ln, F⟩ hs).boxNew3 (.int .i64 x) (.int .i64 y) (.slice a m cap) 27
  replace st0 := st0.boxNew3 (.int .i64 0) (.int .i64 0) (.slice none 0 0) 27
  simp only [World.size_alloc] at st0
  have HG := Lib.hid (gsB_no h)
  clear hs h
  obtain ⟨c0, c1, c2⟩ := (st0.box 1 (w.heap.size, [.int .i64 x, .int .i64 y, .slice a m cap]) rfl).c3
  go_enter Try.func89, Try.ntmps89
  have q0 := st0.rw 0 ⟨o, lo, hi, .slice a m cap, m, ln, F⟩ rfl
  dsimp only at q0
  go_wp2_with fail
  refine (l05Is_any _ _ _ q0).mono ?_
  rintro e w1 ⟨rfl, b1⟩
  rw [HG.out]
  have st1 := st0.keep b1
  have hz1 := b1.size
  simp only [World.size_alloc] at hz1
  clear st0 b1 q0
  clear c0 c1 c2
  obtain ⟨c0, c1, c2⟩ := (st1.box 1 (w.heap.size, [.int .i64 x, .int .i64 y, .slice a m cap]) rfl).c3
  obtain ⟨d0, d1, d2⟩ := (st1.box 0 (w.heap.size + 1, [.int .i64 0, .int .i64 0, .slice none 0 0]) rfl).c3
  have dz := (st1.box 0 (w.heap.size + 1, [.int .i64 0, .int .i64 0, .slice none 0 0]) rfl).2.2
  dsimp only at dz
  have BB := st1.1
  go_wp2
  refine bodyPost_ret (v := failG 3) (by simp [results, Try.results89, go_sem, failG, d0, d1, d2]) rfl ?_
  exact ⟨rfl, by first | exact BB | go_grown⟩

end
end Go.Proofs.Ythmhjnholhiohaa
