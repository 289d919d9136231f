/- Desks in the laws: their sizes, their copies, their comparison. -/
import Derived.Test.YtnhpodlcgkgpbaaCopy
import Derived.Test.YtnhpodlcgkgpbaaCopyR
import Derived.Test.YtnhpodlcgkgpbaaChr
import Derived.Test.YtnhpodlcgkgpbaaState
namespace Go.Proofs.Ytnhpodlcgkgpbaa
open Go.RowKit Go.ChangeShapes
set_option linter.unusedVariables false
set_option linter.unusedSimpArgs false
set_option maxRecDepth 100000
theorem array7 {α : Type} {cs : Array α} (h : cs.size = 7) : ∃ c0 c1 c2 c3 c4 c5 c6, cs = #[c0, c1, c2, c3, c4, c5, c6] := by
  obtain ⟨l⟩ := cs
  match l, h with
  | [c0, c1, c2, c3, c4, c5, c6], _ => exact ⟨c0, c1, c2, c3, c4, c5, c6, rfl⟩
theorem Box.cell7 {w : World} {b : Nat} {v0 v1 v2 v3 v4 v5 v6 : Value} (h : Box w b [v0, v1, v2, v3, v4, v5, v6]) :
    w.cell? ⟨b, 0, none⟩ = some v0 ∧ w.cell? ⟨b, 1, none⟩ = some v1 ∧ w.cell? ⟨b, 2, none⟩ = some v2 ∧ w.cell? ⟨b, 3, none⟩ = some v3 ∧ w.cell? ⟨b, 4, none⟩ = some v4 ∧ w.cell? ⟨b, 5, none⟩ = some v5 ∧ w.cell? ⟨b, 6, none⟩ = some v6 :=
  ⟨h.2.1 0 _ rfl, h.2.1 1 _ rfl, h.2.1 2 _ rfl, h.2.1 3 _ rfl, h.2.1 4 _ rfl, h.2.1 5 _ rfl, h.2.1 6 _ rfl⟩
theorem Box.setAt {w : World} {b i : Nat} {vs : List Value} {u : Value} (h : Box w b vs) (hi : i < vs.length) : Box (w.setCell ⟨b, i, none⟩ u) b (vs.set i u) := by
  obtain ⟨h1, h2, h3⟩ := h
  refine ⟨by simpa using h1, ?_, fun k => by simpa using h3 k⟩
  intro j v hj
  rw [List.getElem?_set] at hj
  by_cases e : i = j
  · subst e
    rw [if_pos rfl, if_pos hi] at hj
    cases hj
    exact World.cell?_setCell_same _ _ _ (h2 i _ (List.getElem?_eq_getElem hi))
  · rw [if_neg e] at hj
    rw [setCell_ne _ _ _ _ _ (fun h => by cases h; exact e rfl)]
    exact h2 j v hj
theorem St.headD {W w w' : World} {b : Nat} {vs us : List Value} {bs : List (Nat × List Value)} {ss : List SlF} (h : St W w ((b, vs) :: bs) ss) (hx : Box w' b us) (hf : Frame b (b + 1) w w') (hb : W.heap.size ≤ b) (hbs : ∀ x ∈ bs, x.1 < b ∨ b + 1 ≤ x.1) (hss : ∀ s ∈ ss, s.hi ≤ b ∨ b + 1 ≤ s.lo) : St W w' ((b, us) :: bs) ss := by
  have h' : St W w bs ss := ⟨h.1, fun x hm => h.2.1 x (List.mem_cons_of_mem _ hm), h.2.2⟩
  exact (h'.write hf hb hbs hss).addBox b us hx
theorem St.subD {W w : World} {bs bs' : List (Nat × List Value)} {ss ss' : List SlF} (h : St W w bs ss) (hb : ∀ b ∈ bs', b ∈ bs) (hs : ∀ s ∈ ss', s ∈ ss) : St W w bs' ss' := ⟨h.1, fun b hm => h.2.1 b (hb b hm), fun s hm => h.2.2 s (hs s hm)⟩
theorem szDesk_yes (x p q r y : Int) (a : Option Addr) (n c : Nat) (b : Option Addr) (m d : Nat) (left : Int) (w : World) (hl : left ≤ 1048576) (hn : (n : Int) + m ≤ left) :
    Calls Try.prog 19 #[.agg #[.int .i64 x, .slice a n c, .int .i64 p, .int .i64 q, .int .i64 r, .int .i64 y, .slice b m d], .int .i64 left] w fun e w' => e = .returned (.int .i64 (left - n - m)) ∧ Below w.heap.size w w' := by
  have st := ((St.start w).alloc (.cells #[.int .i64 x, .slice a n c, .int .i64 p, .int .i64 q, .int .i64 r, .int .i64 y, .slice b m d] 39)).addBox w.heap.size [.int .i64 x, .slice a n c, .int .i64 p, .int .i64 q, .int .i64 r, .int .i64 y, .slice b m d] (Box.made _ _ _ _ (fun j v h => by simpa using h))
  obtain ⟨x0, x1, x2, x3, x4, x5, x6⟩ := (st.box 0 (w.heap.size, [.int .i64 x, .slice a n c, .int .i64 p, .int .i64 q, .int .i64 r, .int .i64 y, .slice b m d]) rfl).cell7
  dsimp only at x0 x1 x2 x3 x4 x5 x6
  go_enter Try.func19, Try.ntmps19
  go_wp2_with fail
  refine (szCyclo_yes _ _ _ _ _ hl (by omega)).mono ?_
  rintro e w1 ⟨rfl, b1⟩
  replace st := st.keep b1
  clear b1 x0 x1 x2 x3 x4 x5 x6
  obtain ⟨x0, x1, x2, x3, x4, x5, x6⟩ := (st.box 0 (w.heap.size, [.int .i64 x, .slice a n c, .int .i64 p, .int .i64 q, .int .i64 r, .int .i64 y, .slice b m d]) rfl).cell7
  dsimp only at x0 x1 x2 x3 x4 x5 x6
  go_wp2_with fail
  refine (szRing_yes _ _ _ _ _ (by omega) (by omega)).mono ?_
  rintro e w2 ⟨rfl, b2⟩
  replace st := st.keep b2
  have BB := st.1
  go_wp2
  go_ret
  exact ⟨rfl, BB⟩
theorem szDesk_no1 (x p q r y : Int) (a : Option Addr) (n c : Nat) (b : Option Addr) (m d : Nat) (left : Int) (w : World) (hm : n ≤ maxLen) (h0 : 0 ≤ left) (hl : left ≤ 1048576) (hn : left < (n : Int)) :
    Calls Try.prog 19 #[.agg #[.int .i64 x, .slice a n c, .int .i64 p, .int .i64 q, .int .i64 r, .int .i64 y, .slice b m d], .int .i64 left] w fun e w' => e = .returned (.int .i64 (-1)) ∧ Below w.heap.size w w' := by
  have st := ((St.start w).alloc (.cells #[.int .i64 x, .slice a n c, .int .i64 p, .int .i64 q, .int .i64 r, .int .i64 y, .slice b m d] 39)).addBox w.heap.size [.int .i64 x, .slice a n c, .int .i64 p, .int .i64 q, .int .i64 r, .int .i64 y, .slice b m d] (Box.made _ _ _ _ (fun j v h => by simpa using h))
  obtain ⟨x0, x1, x2, x3, x4, x5, x6⟩ := (st.box 0 (w.heap.size, [.int .i64 x, .slice a n c, .int .i64 p, .int .i64 q, .int .i64 r, .int .i64 y, .slice b m d]) rfl).cell7
  dsimp only at x0 x1 x2 x3 x4 x5 x6
  go_enter Try.func19, Try.ntmps19
  go_wp2_with fail
  refine (szCyclo_no _ _ _ _ _ hm h0 hl hn).mono ?_
  rintro e w1 ⟨rfl, b1⟩
  replace st := st.keep b1
  have BB := st.1
  go_wp2
  go_ret
  exact ⟨rfl, BB⟩
theorem szDesk_no2 (x p q r y : Int) (a : Option Addr) (n c : Nat) (b : Option Addr) (m d : Nat) (left : Int) (w : World) (hm : m ≤ maxLen) (h0 : 0 ≤ left) (hl : left ≤ 1048576) (hn : (n : Int) ≤ left) (hn2 : left < (n : Int) + m) :
    Calls Try.prog 19 #[.agg #[.int .i64 x, .slice a n c, .int .i64 p, .int .i64 q, .int .i64 r, .int .i64 y, .slice b m d], .int .i64 left] w fun e w' => e = .returned (.int .i64 (-1)) ∧ Below w.heap.size w w' := by
  have st := ((St.start w).alloc (.cells #[.int .i64 x, .slice a n c, .int .i64 p, .int .i64 q, .int .i64 r, .int .i64 y, .slice b m d] 39)).addBox w.heap.size [.int .i64 x, .slice a n c, .int .i64 p, .int .i64 q, .int .i64 r, .int .i64 y, .slice b m d] (Box.made _ _ _ _ (fun j v h => by simpa using h))
  obtain ⟨x0, x1, x2, x3, x4, x5, x6⟩ := (st.box 0 (w.heap.size, [.int .i64 x, .slice a n c, .int .i64 p, .int .i64 q, .int .i64 r, .int .i64 y, .slice b m d]) rfl).cell7
  dsimp only at x0 x1 x2 x3 x4 x5 x6
  go_enter Try.func19, Try.ntmps19
  go_wp2_with fail
  refine (szCyclo_yes _ _ _ _ _ hl (by omega)).mono ?_
  rintro e w1 ⟨rfl, b1⟩
  replace st := st.keep b1
  clear b1 x0 x1 x2 x3 x4 x5 x6
  obtain ⟨x0, x1, x2, x3, x4, x5, x6⟩ := (st.box 0 (w.heap.size, [.int .i64 x, .slice a n c, .int .i64 p, .int .i64 q, .int .i64 r, .int .i64 y, .slice b m d]) rfl).cell7
  dsimp only at x0 x1 x2 x3 x4 x5 x6
  go_wp2_with fail
  refine (szRing_no _ _ _ _ _ hm (by omega) (by omega) (by omega)).mono ?_
  rintro e w2 ⟨rfl, b2⟩
  replace st := st.keep b2
  have BB := st.1
  go_wp2
  go_ret
  exact ⟨rfl, BB⟩
theorem eqCharacter_same (x y z : Int) (w : World) :
    Calls Try.prog 87 #[.agg #[.int .i64 x, .int .i64 y, .int .i64 z], .agg #[.int .i64 x, .int .i64 y, .int .i64 z]] w fun e w' => e = .returned (.bool true) ∧ Below w.heap.size w w' := by
  go_enter Try.func87, Try.ntmps87
  go_wp2
  go_ret
  exact ⟨rfl, by go_grown⟩
set_option maxHeartbeats 4000000 in
theorem toDesk_any (x p q r y : Int) {a : Option Addr} {n c : Nat} {b : Option Addr} {m d : Nat} {f g : Nat → Int} {o o' : Bool} {lo hi lo' hi' : Nat} (w : World) (hs : Sl o w lo hi (.slice a n c) n f) (ht : Sl o' w lo' hi' (.slice b m d) m g) (hn : n ≤ 1048576) (hm : m ≤ 1048576) :
    Calls Try.prog 21 #[.agg #[.int .i64 x, .slice a n c, .int .i64 p, .int .i64 q, .int .i64 r, .int .i64 y, .slice b m d]] w fun e w' => ∃ a1 c1 b1 d1, e = .returned (.agg #[.int .i64 x, .slice a1 n c1, .int .i64 p, .int .i64 q, .int .i64 r, .int .i64 y, .slice b1 m d1]) ∧ Sl true w' w.heap.size w'.heap.size (.slice a1 n c1) n f ∧ Sl true w' w.heap.size w'.heap.size (.slice b1 m d1) m g ∧ Below w.heap.size w w' := by
  have hhs := hs.size
  have hht := ht.size
  have st := (((St.start w).addSl ⟨o, lo, hi, .slice a n c, n, f⟩ hs).addSl ⟨o', lo', hi', .slice b m d, m, g⟩ ht).alloc (.cells #[.int .i64 x, .slice a n c, .int .i64 p, .int .i64 q, .int .i64 r, .int .i64 y, .slice b m d] 39) |>.addBox w.heap.size [.int .i64 x, .slice a n c, .int .i64 p, .int .i64 q, .int .i64 r, .int .i64 y, .slice b m d] (Box.made _ _ _ _ (fun j v h => by simpa using h))
  replace st := (st.alloc (.cells #[.int .i64 0, .slice none 0 0, .int .i64 0, .int .i64 0, .int .i64 0, .int .i64 0, .slice none 0 0] 30)).addBox _ [.int .i64 0, .slice none 0 0, .int .i64 0, .int .i64 0, .int .i64 0, .int .i64 0, .slice none 0 0] (Box.made _ _ _ _ (fun j v h => by simpa using h))
  replace st := (st.alloc (.cells #[.int .i64 0, .slice none 0 0, .int .i64 0, .int .i64 0, .int .i64 0, .int .i64 0, .slice none 0 0] 30)).addBox _ [.int .i64 0, .slice none 0 0, .int .i64 0, .int .i64 0, .int .i64 0, .int .i64 0, .slice none 0 0] (Box.made _ _ _ _ (fun j v h => by simpa using h))
  simp only [World.size_alloc] at st
  clear hs ht
  obtain ⟨x0, x1, x2, x3, x4, x5, x6⟩ := (st.box 2 (w.heap.size, [.int .i64 x, .slice a n c, .int .i64 p, .int .i64 q, .int .i64 r, .int .i64 y, .slice b m d]) rfl).cell7
  dsimp only at x0 x1 x2 x3 x4 x5 x6
  obtain ⟨z0, z1, z2, z3, z4, z5, z6⟩ := (st.box 0 (w.heap.size + 1 + 1, [.int .i64 0, .slice none 0 0, .int .i64 0, .int .i64 0, .int .i64 0, .int .i64 0, .slice none 0 0]) rfl).cell7
  dsimp only at z0 z1 z2 z3 z4 z5 z6
  have zz := (st.box 0 (w.heap.size + 1 + 1, [.int .i64 0, .slice none 0 0, .int .i64 0, .int .i64 0, .int .i64 0, .int .i64 0, .slice none 0 0]) rfl).2.2
  dsimp only at zz
  have qa := st.sl 1 ⟨o, lo, hi, .slice a n c, n, f⟩ rfl
  dsimp only at qa
  go_enter Try.func21, Try.ntmps21
  go_wp2_with fail
  refine (toCyclo_any _ _ qa hn).mono ?_
  rintro e w1 ⟨a1, c1, rfl, s1, b1⟩
  have hz1 := b1.size
  simp only [World.size_alloc] at hz1 s1
  replace st := (st.keep b1).addSl ⟨true, w.heap.size + 1 + 1 + 1, w1.heap.size, .slice a1 n c1, n, f⟩ s1
  clear s1 b1 qa x0 x1 x2 x3 x4 x5 x6 z0 z1 z2 z3 z4 z5 z6 zz
  obtain ⟨x0, x1, x2, x3, x4, x5, x6⟩ := (st.box 2 (w.heap.size, [.int .i64 x, .slice a n c, .int .i64 p, .int .i64 q, .int .i64 r, .int .i64 y, .slice b m d]) rfl).cell7
  dsimp only at x0 x1 x2 x3 x4 x5 x6
  obtain ⟨z0, z1, z2, z3, z4, z5, z6⟩ := (st.box 0 (w.heap.size + 1 + 1, [.int .i64 0, .slice none 0 0, .int .i64 0, .int .i64 0, .int .i64 0, .int .i64 0, .slice none 0 0]) rfl).cell7
  dsimp only at z0 z1 z2 z3 z4 z5 z6
  have zz := (st.box 0 (w.heap.size + 1 + 1, [.int .i64 0, .slice none 0 0, .int .i64 0, .int .i64 0, .int .i64 0, .int .i64 0, .slice none 0 0]) rfl).2.2
  dsimp only at zz
  replace st := st.headD (((st.box 0 (w.heap.size + 1 + 1, [.int .i64 0, .slice none 0 0, .int .i64 0, .int .i64 0, .int .i64 0, .int .i64 0, .slice none 0 0]) rfl).setAt (i := 0) (u := .int .i64 x) (by simp)).setAt (i := 1) (u := .slice a1 n c1) (by simp)) (((Frame.refl (w.heap.size + 1 + 1) (w.heap.size + 1 + 1 + 1) w1).setCell (p := ⟨w.heap.size + 1 + 1, 0, none⟩) (Nat.le_refl _) (Nat.lt_succ_self _) (.int .i64 x)).setCell (p := ⟨w.heap.size + 1 + 1, 1, none⟩) (Nat.le_refl _) (Nat.lt_succ_self _) (.slice a1 n c1)) (by omega) (by intro t ht; simp only [List.mem_cons, List.not_mem_nil, or_false] at ht; rcases ht with rfl | rfl <;> dsimp only <;> omega) (by intro t ht; simp only [List.mem_cons, List.not_mem_nil, or_false] at ht; rcases ht with rfl | rfl | rfl <;> dsimp only <;> omega)
  simp only [List.set_cons_zero, List.set_cons_succ] at st
  clear x0 x1 x2 x3 x4 x5 x6
  obtain ⟨x0, x1, x2, x3, x4, x5, x6⟩ := (st.box 2 (w.heap.size, [.int .i64 x, .slice a n c, .int .i64 p, .int .i64 q, .int .i64 r, .int .i64 y, .slice b m d]) rfl).cell7
  dsimp only at x0 x1 x2 x3 x4 x5 x6
  go_wp2_with fail
  refine (toCharacter_any _ _ _ _).mono ?_
  rintro e w2 ⟨rfl, b2⟩
  have hz2 := b2.size
  simp only [World.size_setCell] at hz2
  replace st := st.keep b2
  clear b2 x0 x1 x2 x3 x4 x5 x6 z0 z1 z2 z3 z4 z5 z6 zz
  obtain ⟨x0, x1, x2, x3, x4, x5, x6⟩ := (st.box 2 (w.heap.size, [.int .i64 x, .slice a n c, .int .i64 p, .int .i64 q, .int .i64 r, .int .i64 y, .slice b m d]) rfl).cell7
  dsimp only at x0 x1 x2 x3 x4 x5 x6
  obtain ⟨z0, z1, z2, z3, z4, z5, z6⟩ := (st.box 0 (w.heap.size + 1 + 1, [.int .i64 x, .slice a1 n c1, .int .i64 0, .int .i64 0, .int .i64 0, .int .i64 0, .slice none 0 0]) rfl).cell7
  dsimp only at z0 z1 z2 z3 z4 z5 z6
  have zz := (st.box 0 (w.heap.size + 1 + 1, [.int .i64 x, .slice a1 n c1, .int .i64 0, .int .i64 0, .int .i64 0, .int .i64 0, .slice none 0 0]) rfl).2.2
  dsimp only at zz
  replace st := st.headD ((((st.box 0 (w.heap.size + 1 + 1, [.int .i64 x, .slice a1 n c1, .int .i64 0, .int .i64 0, .int .i64 0, .int .i64 0, .slice none 0 0]) rfl).setAt (i := 2) (u := .int .i64 p) (by simp)).setAt (i := 3) (u := .int .i64 q) (by simp)).setAt (i := 4) (u := .int .i64 r) (by simp)) ((((Frame.refl (w.heap.size + 1 + 1) (w.heap.size + 1 + 1 + 1) w2).setCell (p := ⟨w.heap.size + 1 + 1, 2, none⟩) (Nat.le_refl _) (Nat.lt_succ_self _) (.int .i64 p)).setCell (p := ⟨w.heap.size + 1 + 1, 3, none⟩) (Nat.le_refl _) (Nat.lt_succ_self _) (.int .i64 q)).setCell (p := ⟨w.heap.size + 1 + 1, 4, none⟩) (Nat.le_refl _) (Nat.lt_succ_self _) (.int .i64 r)) (by omega) (by intro t ht; simp only [List.mem_cons, List.not_mem_nil, or_false] at ht; rcases ht with rfl | rfl <;> dsimp only <;> omega) (by intro t ht; simp only [List.mem_cons, List.not_mem_nil, or_false] at ht; rcases ht with rfl | rfl | rfl <;> dsimp only <;> omega)
  simp only [List.set_cons_zero, List.set_cons_succ] at st
  clear x0 x1 x2 x3 x4 x5 x6
  obtain ⟨x0, x1, x2, x3, x4, x5, x6⟩ := (st.box 2 (w.heap.size, [.int .i64 x, .slice a n c, .int .i64 p, .int .i64 q, .int .i64 r, .int .i64 y, .slice b m d]) rfl).cell7
  dsimp only at x0 x1 x2 x3 x4 x5 x6
  have qb := st.sl 1 ⟨o', lo', hi', .slice b m d, m, g⟩ rfl
  dsimp only at qb
  go_wp2_with fail
  refine (toRing_any _ _ qb hm).mono ?_
  rintro e w3 ⟨b1, d1, rfl, s3, b3⟩
  have hz3 := b3.size
  simp only [World.size_setCell] at hz3 s3
  replace st := (st.keep b3).addSl ⟨true, w2.heap.size, w3.heap.size, .slice b1 m d1, m, g⟩ s3
  clear s3 b3 qb x0 x1 x2 x3 x4 x5 x6 z0 z1 z2 z3 z4 z5 z6 zz
  obtain ⟨z0, z1, z2, z3, z4, z5, z6⟩ := (st.box 0 (w.heap.size + 1 + 1, [.int .i64 x, .slice a1 n c1, .int .i64 p, .int .i64 q, .int .i64 r, .int .i64 0, .slice none 0 0]) rfl).cell7
  dsimp only at z0 z1 z2 z3 z4 z5 z6
  have zz := (st.box 0 (w.heap.size + 1 + 1, [.int .i64 x, .slice a1 n c1, .int .i64 p, .int .i64 q, .int .i64 r, .int .i64 0, .slice none 0 0]) rfl).2.2
  dsimp only at zz
  replace st := st.headD (((st.box 0 (w.heap.size + 1 + 1, [.int .i64 x, .slice a1 n c1, .int .i64 p, .int .i64 q, .int .i64 r, .int .i64 0, .slice none 0 0]) rfl).setAt (i := 5) (u := .int .i64 y) (by simp)).setAt (i := 6) (u := .slice b1 m d1) (by simp)) (((Frame.refl (w.heap.size + 1 + 1) (w.heap.size + 1 + 1 + 1) w3).setCell (p := ⟨w.heap.size + 1 + 1, 5, none⟩) (Nat.le_refl _) (Nat.lt_succ_self _) (.int .i64 y)).setCell (p := ⟨w.heap.size + 1 + 1, 6, none⟩) (Nat.le_refl _) (Nat.lt_succ_self _) (.slice b1 m d1)) (by omega) (by intro t ht; simp only [List.mem_cons, List.not_mem_nil, or_false] at ht; rcases ht with rfl | rfl <;> dsimp only <;> omega) (by intro t ht; simp only [List.mem_cons, List.not_mem_nil, or_false] at ht; rcases ht with rfl | rfl | rfl | rfl <;> dsimp only <;> omega)
  simp only [List.set_cons_zero, List.set_cons_succ] at st
  obtain ⟨y0, y1, y2, y3, y4, y5, y6⟩ := (st.box 0 (w.heap.size + 1 + 1, [.int .i64 x, .slice a1 n c1, .int .i64 p, .int .i64 q, .int .i64 r, .int .i64 y, .slice b1 m d1]) rfl).cell7
  dsimp only at y0 y1 y2 y3 y4 y5 y6
  obtain ⟨r0, r1, r2, r3, r4, r5, r6⟩ := (st.box 1 (w.heap.size + 1, [.int .i64 0, .slice none 0 0, .int .i64 0, .int .i64 0, .int .i64 0, .int .i64 0, .slice none 0 0]) rfl).cell7
  dsimp only at r0 r1 r2 r3 r4 r5 r6
  have rz := (st.box 1 (w.heap.size + 1, [.int .i64 0, .slice none 0 0, .int .i64 0, .int .i64 0, .int .i64 0, .int .i64 0, .slice none 0 0]) rfl).2.2
  dsimp only at rz
  have BB := st.1
  have sa := st.sl 1 ⟨true, w.heap.size + 1 + 1 + 1, w1.heap.size, .slice a1 n c1, n, f⟩ rfl
  have sb := st.sl 0 ⟨true, w2.heap.size, w3.heap.size, .slice b1 m d1, m, g⟩ rfl
  dsimp only at sa sb
  have SA := Lib.hid sa
  have SB := Lib.hid sb
  clear sa sb st
  go_wp2
  refine bodyPost_ret (v := .agg #[.int .i64 x, .slice a1 n c1, .int .i64 p, .int .i64 q, .int .i64 r, .int .i64 y, .slice b1 m d1]) (by simp [results, Try.results21, go_sem, r0, r1, r2, r3, r4, r5, r6]) rfl ?_
  refine ⟨a1, c1, b1, d1, rfl, ?_, ?_, by go_grown⟩
  · exact ((((((((SA.out).setOther (.inl (show w.heap.size + 1 < w.heap.size + 1 + 1 + 1 from by omega)) _).setOther (.inl (show w.heap.size + 1 < w.heap.size + 1 + 1 + 1 from by omega)) _).setOther (.inl (show w.heap.size + 1 < w.heap.size + 1 + 1 + 1 from by omega)) _).setOther (.inl (show w.heap.size + 1 < w.heap.size + 1 + 1 + 1 from by omega)) _).setOther (.inl (show w.heap.size + 1 < w.heap.size + 1 + 1 + 1 from by omega)) _).setOther (.inl (show w.heap.size + 1 < w.heap.size + 1 + 1 + 1 from by omega)) _).setOther (.inl (show w.heap.size + 1 < w.heap.size + 1 + 1 + 1 from by omega)) _).wide (by omega) (by simp; omega) (Nat.le_refl _)
  · exact ((((((((SB.out).setOther (.inl (show w.heap.size + 1 < w2.heap.size from by omega)) _).setOther (.inl (show w.heap.size + 1 < w2.heap.size from by omega)) _).setOther (.inl (show w.heap.size + 1 < w2.heap.size from by omega)) _).setOther (.inl (show w.heap.size + 1 < w2.heap.size from by omega)) _).setOther (.inl (show w.heap.size + 1 < w2.heap.size from by omega)) _).setOther (.inl (show w.heap.size + 1 < w2.heap.size from by omega)) _).setOther (.inl (show w.heap.size + 1 < w2.heap.size from by omega)) _).wide (by omega) (by simp) (Nat.le_refl _)
set_option maxHeartbeats 1000000 in
theorem eqDesk_yes (x p q r y : Int) {a : Option Addr} {n c : Nat} {b : Option Addr} {m d : Nat} {f g : Nat → Int} {o o' : Bool} {lo hi lo' hi' : Nat} {a' : Option Addr} {c' : Nat} {b' : Option Addr} {d' : Nat} {f' g' : Nat → Int} {p1 p2 : Bool} {k1 k2 k3 k4 : Nat} (w : World) (hs : Sl o w lo hi (.slice a n c) n f) (ht : Sl o' w lo' hi' (.slice b m d) m g)
    (hs' : Sl p1 w k1 k2 (.slice a' n c') n f') (ht' : Sl p2 w k3 k4 (.slice b' m d') m g') (he : ∀ j, j < n → f j = f' j) (he2 : ∀ j, j < m → g j = g' j) :
    Calls Try.prog 16 #[.agg #[.int .i64 x, .slice a n c, .int .i64 p, .int .i64 q, .int .i64 r, .int .i64 y, .slice b m d], .agg #[.int .i64 x, .slice a' n c', .int .i64 p, .int .i64 q, .int .i64 r, .int .i64 y, .slice b' m d']] w fun e w' => e = .returned (.bool true) ∧ Below w.heap.size w w' := by
  have H1 := hs.size
  have H2 := ht.size
  have H3 := hs'.size
  have H4 := ht'.size
  have st := ((((((St.start w).addSl ⟨o, lo, hi, .slice a n c, n, f⟩ hs).addSl ⟨o', lo', hi', .slice b m d, m, g⟩ ht).addSl ⟨p1, k1, k2, .slice a' n c', n, f'⟩ hs').addSl ⟨p2, k3, k4, .slice b' m d', m, g'⟩ ht').alloc (.cells #[.int .i64 x, .slice a n c, .int .i64 p, .int .i64 q, .int .i64 r, .int .i64 y, .slice b m d] 30)).addBox w.heap.size [.int .i64 x, .slice a n c, .int .i64 p, .int .i64 q, .int .i64 r, .int .i64 y, .slice b m d] (Box.made _ _ _ _ (fun j v h => by simpa using h))
  replace st := (st.alloc (.cells #[.int .i64 x, .slice a' n c', .int .i64 p, .int .i64 q, .int .i64 r, .int .i64 y, .slice b' m d'] 30)).addBox _ [.int .i64 x, .slice a' n c', .int .i64 p, .int .i64 q, .int .i64 r, .int .i64 y, .slice b' m d'] (Box.made _ _ _ _ (fun j v h => by simpa using h))
  simp only [World.size_alloc] at st
  have HE := Lib.hid he
  have HE2 := Lib.hid he2
  clear hs ht hs' ht' he he2
  obtain ⟨x0, x1, x2, x3, x4, x5, x6⟩ := (st.box 1 (w.heap.size, [.int .i64 x, .slice a n c, .int .i64 p, .int .i64 q, .int .i64 r, .int .i64 y, .slice b m d]) rfl).cell7
  dsimp only at x0 x1 x2 x3 x4 x5 x6
  obtain ⟨z0, z1, z2, z3, z4, z5, z6⟩ := (st.box 0 (w.heap.size + 1, [.int .i64 x, .slice a' n c', .int .i64 p, .int .i64 q, .int .i64 r, .int .i64 y, .slice b' m d']) rfl).cell7
  dsimp only at z0 z1 z2 z3 z4 z5 z6
  have qa := st.sl 3 ⟨o, lo, hi, .slice a n c, n, f⟩ rfl
  have qb := st.sl 1 ⟨p1, k1, k2, .slice a' n c', n, f'⟩ rfl
  dsimp only at qa qb
  go_enter Try.func16, Try.ntmps16
  go_wp2_with fail
  refine (eqCyclo_yes _ _ qa qb HE.out).mono ?_
  rintro e w1 ⟨rfl, b1⟩
  replace st := st.keep b1
  clear b1 qa qb x0 x1 x2 x3 x4 x5 x6 z0 z1 z2 z3 z4 z5 z6
  obtain ⟨x0, x1, x2, x3, x4, x5, x6⟩ := (st.box 1 (w.heap.size, [.int .i64 x, .slice a n c, .int .i64 p, .int .i64 q, .int .i64 r, .int .i64 y, .slice b m d]) rfl).cell7
  dsimp only at x0 x1 x2 x3 x4 x5 x6
  obtain ⟨z0, z1, z2, z3, z4, z5, z6⟩ := (st.box 0 (w.heap.size + 1, [.int .i64 x, .slice a' n c', .int .i64 p, .int .i64 q, .int .i64 r, .int .i64 y, .slice b' m d']) rfl).cell7
  dsimp only at z0 z1 z2 z3 z4 z5 z6
  go_wp2_with fail
  refine (eqCharacter_same _ _ _ _).mono ?_
  rintro e w2 ⟨rfl, b2⟩
  replace st := st.keep b2
  clear b2 x0 x1 x2 x3 x4 x5 x6 z0 z1 z2 z3 z4 z5 z6
  obtain ⟨x0, x1, x2, x3, x4, x5, x6⟩ := (st.box 1 (w.heap.size, [.int .i64 x, .slice a n c, .int .i64 p, .int .i64 q, .int .i64 r, .int .i64 y, .slice b m d]) rfl).cell7
  dsimp only at x0 x1 x2 x3 x4 x5 x6
  obtain ⟨z0, z1, z2, z3, z4, z5, z6⟩ := (st.box 0 (w.heap.size + 1, [.int .i64 x, .slice a' n c', .int .i64 p, .int .i64 q, .int .i64 r, .int .i64 y, .slice b' m d']) rfl).cell7
  dsimp only at z0 z1 z2 z3 z4 z5 z6
  have qa := st.sl 2 ⟨o', lo', hi', .slice b m d, m, g⟩ rfl
  have qb := st.sl 0 ⟨p2, k3, k4, .slice b' m d', m, g'⟩ rfl
  dsimp only at qa qb
  go_wp2_with fail
  refine (eqRing_yes _ _ qa qb HE2.out).mono ?_
  rintro e w3 ⟨rfl, b3⟩
  replace st := st.keep b3
  have BB := st.1
  go_wp2
  go_ret
  exact ⟨rfl, BB⟩
end Go.Proofs.Ytnhpodlcgkgpbaa
