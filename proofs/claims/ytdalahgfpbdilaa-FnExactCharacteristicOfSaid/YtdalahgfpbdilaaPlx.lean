/- Polynomials with images as roots: l02Polynomial of the model. -/
import Derived.Test.YtdalahgfpbdilaaPlz
import Derived.Test.YtdalahgfpbdilaaDegS
import Derived.Test.YtdalahgfpbdilaaDif
import Derived.Test.YtdalahgfpbdilaaTimes
import Derived.Test.YtdalahgfpbdilaaPowZ
import Derived.Deep.RegionLaw
namespace Go.Proofs.Ytdalahgfpbdilaa
open Go.RowKit Go.ChangeShapes Go.Sort
set_option linter.unusedVariables false
set_option linter.unusedSimpArgs false

/-- How many roots there are among the first i images. -/
def cntI (n L : Nat) (f : Nat → Int) (D : Bool) (i : Nat) : Nat := if D then degTo n L f i else i
/-- The root at the place k. -/
def rtI (n L : Nat) (f : Nat → Int) (D : Bool) (k : Nat) : Nat → Int := im n L f (if D then difI n L f (phiN n) k else k)
theorem cntI_le (n L : Nat) (f : Nat → Int) (D : Bool) (i : Nat) : cntI n L f D i ≤ i := by
  unfold cntI; split
  · exact degTo_le n L f i
  · exact Nat.le_refl _
theorem cntI_skip {n L : Nat} {f : Nat → Int} {D : Bool} {i : Nat} (h : (knownB n L f i i && D) = true) : cntI n L f D (i + 1) = cntI n L f D i := by
  rw [Bool.and_eq_true] at h
  unfold cntI
  rw [if_pos h.2, if_pos h.2, degTo_no h.1]
theorem cntI_take {n L : Nat} {f : Nat → Int} {D : Bool} {i : Nat} (h : (knownB n L f i i && D) = false) : cntI n L f D (i + 1) = cntI n L f D i + 1 := by
  unfold cntI
  cases D
  · rfl
  · rw [Bool.and_true] at h
    rw [if_pos rfl, if_pos rfl, degTo_yes h]
theorem degTo_mono (n L : Nat) (f : Nat → Int) {i : Nat} : ∀ {j : Nat}, i ≤ j → degTo n L f i ≤ degTo n L f j
  | 0, h => by obtain rfl : i = 0 := by omega
               exact Nat.le_refl _
  | j + 1, h => by
    by_cases e : i = j + 1
    · subst e; exact Nat.le_refl _
    · exact Nat.le_trans (degTo_mono n L f (j := j) (by omega)) (by show _ ≤ degTo n L f j + _; omega)
theorem difI_at {n L : Nat} {f : Nat → Int} {i : Nat} (h : knownB n L f i i = false) : ∀ {m : Nat}, i < m → difI n L f m (degTo n L f i) = i
  | 0, hm => absurd hm (Nat.not_lt_zero _)
  | m + 1, hm => by
    by_cases e : i = m
    · subst e; exact difI_new h
    · have hi : i < m := by omega
      have ih := difI_at h (m := m) hi
      have hd : degTo n L f i < degTo n L f m := by
        have := degTo_mono n L f (i := i + 1) (j := m) (by omega)
        rw [degTo_yes h] at this
        omega
      cases hk : knownB n L f m m
      · rw [difI_old hk hd]; exact ih
      · rw [difI_same hk]; exact ih
theorem rtI_at {n L : Nat} {f : Nat → Int} {D : Bool} {i : Nat} (h : (knownB n L f i i && D) = false) (hi : i < phiN n) : rtI n L f D (cntI n L f D i) = im n L f i := by
  unfold rtI cntI
  cases D
  · rfl
  · rw [Bool.and_true] at h
    rw [if_pos rfl, if_pos rfl, difI_at h hi]
theorem cntI_mono (n L : Nat) (f : Nat → Int) (D : Bool) {i j : Nat} (h : i ≤ j) : cntI n L f D i ≤ cntI n L f D j := by
  unfold cntI; split
  · exact degTo_mono n L f h
  · exact h
theorem cntI_lt {n L : Nat} {f : Nat → Int} {D : Bool} {i m : Nat} (h : (knownB n L f i i && D) = false) (hi : i < m) : cntI n L f D i < cntI n L f D m := by
  have := cntI_mono n L f D (i := i + 1) (j := m) hi
  rw [cntI_take h] at this
  omega

/-- Numbers whose Parts lie apart from the blocks bs. -/
def NX (w : World) (bs : List Nat) (m N : Nat) (vs : Nat → Value) (G : Nat → Nat → Int) : Prop :=
  ∀ k, k < m → ∃ lo hi, (∀ b ∈ bs, b < lo ∨ hi ≤ b) ∧ Sl false w lo hi (vs k) N (G k)
section
variable {w w' : World} {g i m n N : Nat} {vs : Nat → Value} {G : Nat → Nat → Int} {bs : List Nat}
theorem NX.keep {B : Nat} (h : NX w bs m N vs G) (hb : Below B w w') (hB : w.heap.size ≤ B) : NX w' bs m N vs G := fun k hk => by
  obtain ⟨lo, hi, q1, q2⟩ := h k hk
  exact ⟨lo, hi, q1, q2.keep hb (Nat.le_trans q2.size hB)⟩
theorem NX.alloc (h : NX w bs m N vs G) (ob : Obj) : NX (w.alloc ob) bs m N vs G := h.keep ((Below.refl _ _).alloc (Nat.le_refl _) _) (Nat.le_refl _)
theorem NX.more {b : Nat} (h : NX w bs m N vs G) (hb : w.heap.size ≤ b) : NX w (b :: bs) m N vs G := fun k hk => by
  obtain ⟨lo, hi, q1, q2⟩ := h k hk
  refine ⟨lo, hi, fun x hx => ?_, q2⟩
  rcases List.mem_cons.1 hx with rfl | hx
  · have := q2.size; right; omega
  · exact q1 x hx
theorem NX.sub {bs' : List Nat} (h : NX w bs m N vs G) (hb : ∀ b ∈ bs', b ∈ bs) : NX w bs' m N vs G := fun k hk => by
  obtain ⟨lo, hi, q1, q2⟩ := h k hk
  exact ⟨lo, hi, fun x hx => q1 x (hb x hx), q2⟩
theorem NX.frame {b : Nat} (h : NX w bs m N vs G) (hf : Frame b (b + 1) w w') (hb : b ∈ bs) : NX w' bs m N vs G := fun k hk => by
  obtain ⟨lo, hi, q1, q2⟩ := h k hk
  have := q1 b hb
  exact ⟨lo, hi, q1, q2.keepF hf (by omega)⟩
theorem NX.grown {b b' : Nat} (h : NX w (b :: bs) m N vs G) (hf : Frame b (b + 1) w w') (ho : b' = b ∨ b' = w.heap.size) : NX w' (b' :: bs) m N vs G := by
  rcases ho with rfl | rfl
  · exact h.frame hf List.mem_cons_self
  · exact ((h.more (Nat.le_refl _)).frame hf (by simp)).sub (fun x hx => by simp only [List.mem_cons] at hx ⊢; rcases hx with hx | hx <;> simp [hx])
theorem NX.push {u : Value} {lo hi : Nat} (h : NX w bs m N vs G) (hs : Sl false w lo hi u N (G m)) (ha : ∀ b ∈ bs, b < lo ∨ hi ≤ b) : NX w bs (m + 1) N (fun k => if k < m then vs k else u) G := fun k hk => by
  by_cases e : k < m
  · obtain ⟨l, h', q1, q2⟩ := h k e
    exact ⟨l, h', q1, by dsimp only; rw [if_pos e]; exact q2⟩
  · obtain rfl : k = m := by omega
    exact ⟨lo, _, ha, by dsimp only; rw [if_neg e]; exact hs⟩
theorem CL.sub {bs' : List Nat} (h : CL w g i m n N vs G bs) (hb : ∀ b ∈ bs', b ∈ bs) : CL w g i m n N vs G bs' := by
  obtain ⟨h1, h2, h3, h4⟩ := h
  exact ⟨h1, h2, h3, NX.sub (bs := bs) h4 hb⟩
theorem CL.frame {b : Nat} (h : CL w g i m n N vs G bs) (hf : Frame b (b + 1) w w') (hb : b ∈ bs) (hne : g ≠ b) : CL w' g i m n N vs G bs := by
  obtain ⟨h1, h2, h3, h4⟩ := h
  refine ⟨Nat.lt_of_lt_of_le h1 hf.size, fun k => (hf.frozen (p := ⟨g, k, none⟩) h1 (by show g < b ∨ b + 1 ≤ g; omega)).trans (h2 k), fun k hk => ⟨(hf.cell (p := ⟨g, k * 2, none⟩) h1 (by show g < b ∨ b + 1 ≤ g; omega)).trans (h3 k hk).1, (hf.cell (p := ⟨g, k * 2 + 1, none⟩) h1 (by show g < b ∨ b + 1 ≤ g; omega)).trans (h3 k hk).2⟩, NX.frame (bs := bs) h4 hf hb⟩
theorem CL.grown {b b' : Nat} (h : CL w g i m n N vs G (b :: bs)) (hf : Frame b (b + 1) w w') (hne : g ≠ b) (ho : b' = b ∨ b' = w.heap.size) : CL w' g i m n N vs G (b' :: bs) := by
  rcases ho with rfl | rfl
  · exact h.frame hf List.mem_cons_self hne
  · exact ((h.more (Nat.le_refl _)).frame hf (by simp) hne).sub (fun x hx => by simp only [List.mem_cons] at hx ⊢; rcases hx with hx | hx <;> simp [hx])
end

section
variable {o : Bool} {lo hi L : Nat} {v : Value} {f : Nat → Int}
theorem l01One_poly (n : Nat) (w : World) (h1 : 1 ≤ n) (h2 : n ≤ 16) :
    Calls Try.prog 197 #[.int .i64 (n : Int)] w fun e w' => ∃ a cap, e = .returned (.agg #[.int .i64 (n : Int), .slice a (phiN n) cap]) ∧ Sl true w' w.heap.size w'.heap.size (.slice a (phiN n) cap) (phiN n) one0 ∧ Below w.heap.size w w' := by
  have hred : ∀ j, j < phiN n → redP n (unit (powIx n 0)) j = one0 j := by
    intro j hj
    have hn : n < 17 := by omega
    have hp := phi_le12 n (by omega) h1
    have e : redZ n (unit 0) j = one0 j := by
      rw [tb_eq hn h1 (by omega) hj, tab_unit n hn h1 0 (phi_pos n hn h1) j hj]
      unfold one0
      by_cases h : j = 0
      · rw [if_pos h, if_pos h.symm]
      · rw [if_neg h, if_neg (fun h' => h h'.symm)]
    have hpz : ∀ n, n < 17 → 1 ≤ n → powIx n 0 = 0 := by decide +kernel
    rw [hpz n hn h1, redP_exact hn h1 (P' := unit 0) (fun k _ => (wrap_inR (by unfold unit inR; split <;> omega)).symm) (by omega) (by rw [e]; unfold one0 inR; split <;> omega), e]
  have HRED := Lib.hid hred
  clear hred
  have st0 := (St.start w).boxNew (.int .i64 0) (.slice none 0 0) 28
  go_enter Try.func197, Try.ntmps197
  go_wp2_with fail
  refine (l01Unit_any n 0 _ h1 h2).mono ?_
  rintro e w1 ⟨a1, k1, rfl, s1, b1⟩
  have st1 := st0.keep b1
  have hz1 := b1.size
  simp only [World.size_alloc] at hz1
  have S1 := Lib.hid (s1.congr (f' := one0) (fun j hj => (HRED.out j hj).symm))
  clear st0 b1 s1
  obtain ⟨d0, d1⟩ := (st1.box 0 _ rfl).cell2
  have dz := (st1.box 0 _ rfl).2.2
  have BB := st1.1
  dsimp only at dz
  go_wp2
  refine bodyPost_ret (v := .agg #[.int .i64 (n : Int), .slice a1 (phiN n) k1]) (by simp [results, Try.results197, go_sem, d0, d1]) rfl ?_
  refine ⟨_, _, rfl, ?_, by go_grown⟩
  exact ((S1.out.setOther (.inl (by show w.heap.size < _; simp)) _).setOther (.inl (by show w.heap.size < _; simp)) _).wide (by simp) (by simp) (Nat.le_refl _)
end
end Go.Proofs.Ytdalahgfpbdilaa
