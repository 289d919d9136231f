/- Least divisors, units, the chosen primes above a prime number, by reckoning. Plain facts, no walk. -/
import Derived.Test.YtfadlnbmpgbeaaaEsH
namespace Go.Proofs.Ytfadlnbmpgbeaaa
set_option linter.unusedSimpArgs false
set_option linter.unusedVariables false

/-- d is the least divisor of n other than 1. -/
def isLD (n d : Nat) : Prop := 2 ≤ d ∧ d ∣ n ∧ ∀ e, 2 ≤ e → e < d → ¬ e ∣ n
theorem isLD_uniq {n d e : Nat} (h : isLD n d) (k : isLD n e) : d = e := by
  rcases Nat.lt_trichotomy d e with h1 | h1 | h1
  · exact absurd h.2.1 (k.2.2 d h.1 h1)
  · exact h1
  · exact absurd k.2.1 (h.2.2 e k.1 h1)
theorem isLD_ex {n : Nat} (h : 2 ≤ n) : ∃ d, isLD n d := by
  have key : ∀ m, (∃ d, isLD n d) ∨ ∀ e, 2 ≤ e → e < m → ¬ e ∣ n := by
    intro m
    induction m with
    | zero => exact .inr (fun e _ h => by omega)
    | succ m ih =>
      rcases ih with ih | ih
      · exact .inl ih
      · by_cases h1 : 2 ≤ m ∧ m ∣ n
        · exact .inl ⟨m, h1.1, h1.2, ih⟩
        · refine .inr (fun e h2 h3 h4 => ?_)
          rcases Nat.lt_or_ge e m with h5 | h5
          · exact ih e h2 h5 h4
          · obtain rfl : e = m := by omega
            exact h1 ⟨h2, h4⟩
  rcases key (n + 1) with h1 | h1
  · exact h1
  · exact absurd (Nat.dvd_refl n) (h1 n h (by omega))
theorem isLD_P {n d : Nat} (h : isLD n d) : isP d := by
  refine ⟨h.1, fun e he => ?_⟩
  have h0 := Nat.le_of_dvd (by have := h.1; omega) he
  rcases Nat.lt_or_ge e 2 with h1 | h1
  · rcases Nat.eq_zero_or_pos e with h2 | h2
    · subst h2
      have := Nat.eq_zero_of_zero_dvd he
      have := h.1
      omega
    · left; omega
  · rcases Nat.lt_or_ge e d with h2 | h2
    · exact absurd (Nat.dvd_trans he h.2.1) (h.2.2 e h1 h2)
    · right; omega
theorem isP_LD {p : Nat} (h : isP p) : isLD p p := by
  refine ⟨h.1, Nat.dvd_refl p, fun e h1 h2 h3 => ?_⟩
  rcases h.2 e h3 with h4 | h4 <;> omega
/-- No divisor up to the root: none at all. -/
theorem isLD_self {n d : Nat} (hn : 2 ≤ n) (h1 : n < d * d) (h2 : ∀ e, 2 ≤ e → e < d → ¬ e ∣ n) : isLD n n := by
  refine ⟨hn, Nat.dvd_refl n, fun e h3 h4 h5 => ?_⟩
  obtain ⟨f, hf⟩ := h5
  rcases Nat.lt_or_ge e d with h6 | h6
  · exact h2 e h3 h6 ⟨f, hf⟩
  · rcases Nat.lt_or_ge f d with h7 | h7
    · rcases Nat.lt_or_ge f 2 with h8 | h8
      · rcases Nat.eq_zero_or_pos f with h9 | h9
        · subst h9; rw [Nat.mul_zero] at hf; omega
        · have : f = 1 := by omega
          subst this; omega
      · exact h2 f h8 h7 ⟨e, by rw [hf, Nat.mul_comm]⟩
    · have := Nat.mul_le_mul h6 h7
      omega

namespace Es
theorem unit_six {u : Es} (h : nm u = 1) : ∃ k, k < 6 ∧ u = pw ⟨1, 1⟩ k := by
  have h1 := nrm_bda (a := u.a) (b := u.b) (M := 2) (by omega) (by unfold nm at h; omega)
  have h2 := nrm_bdb (a := u.a) (b := u.b) (M := 2) (by omega) (by unfold nm at h; omega)
  obtain ⟨a, b⟩ := u
  unfold nm at h
  simp only at h1 h2 h
  have ha : a = -2 ∨ a = -1 ∨ a = 0 ∨ a = 1 ∨ a = 2 := by omega
  have hb : b = -2 ∨ b = -1 ∨ b = 0 ∨ b = 1 ∨ b = 2 := by omega
  rcases ha with rfl | rfl | rfl | rfl | rfl <;> rcases hb with rfl | rfl | rfl | rfl | rfl <;> first
    | exact absurd h (by decide)
    | exact ⟨0, by omega, rfl⟩
    | exact ⟨1, by omega, rfl⟩
    | exact ⟨2, by omega, rfl⟩
    | exact ⟨3, by omega, rfl⟩
    | exact ⟨4, by omega, rfl⟩
    | exact ⟨5, by omega, rfl⟩
theorem turn_mul (x : Es) : mul x ⟨1, 1⟩ = ⟨x.a - x.b, x.a⟩ := by
  apply eq
  · show tA _ _ 1 1 = x.a - x.b; unfold tA; omega
  · show tB _ _ 1 1 = x.a; unfold tB; omega
theorem as_mul (k : Nat) : ∀ x : Es, (⟨asA k x.a x.b, asB k x.a x.b⟩ : Es) = mul x (pw ⟨1, 1⟩ k) := by
  induction k with
  | zero => intro x; exact (mul_one x).symm
  | succ k ih =>
    intro x
    have h := ih (mul x ⟨1, 1⟩)
    rw [turn_mul] at h
    show (⟨asA k (x.a - x.b) x.a, asB k (x.a - x.b) x.a⟩ : Es) = _
    rw [h, ← turn_mul, mul_assoc]
    show _ = mul x (mul (pw ⟨1, 1⟩ k) ⟨1, 1⟩)
    rw [mul_comm (pw _ k)]
theorem asoc_unit {x u : Es} (h : nm u = 1) : asoc x.a x.b (mul x u).a (mul x u).b := by
  obtain ⟨k, hk, rfl⟩ := unit_six h
  exact ⟨k, hk, by rw [← as_mul], by rw [← as_mul]⟩
theorem ne_zero {x : Es} (h : x ≠ int 0) : ¬ (x.a = 0 ∧ x.b = 0) := fun ⟨a, b⟩ => h (eq a b)
/-- The chosen associate. -/
def ch (x : Es) : Es := ⟨chA x.a x.b, chB x.a x.b⟩
theorem ch_unit {x : Es} (hx : x ≠ int 0) : ∃ u, nm u = 1 ∧ ch x = mul x u := by
  obtain ⟨k, hk, h1, h2⟩ := ch_as (ne_zero hx)
  refine ⟨pw ⟨1, 1⟩ k, ?_, ?_⟩
  · have : ∀ k, nm (pw ⟨1, 1⟩ k) = 1 := by
      intro k
      induction k with
      | zero => rfl
      | succ k ih => rw [pw, nm_mul, ih]; rfl
    exact this k
  · rw [← as_mul, ← h1, ← h2]; rfl
theorem nm_ch {x : Es} (hx : x ≠ int 0) : nm (ch x) = nm x := by
  obtain ⟨u, hu, e⟩ := ch_unit hx
  rw [e, nm_mul, hu, Int.mul_one]
theorem unit_ne {x u : Es} (hx : x ≠ int 0) (hu : nm u = 1) : mul x u ≠ int 0 := by
  intro h
  rcases mul_eq_zero h with h1 | h1
  · exact hx h1
  · rw [h1, nm_int] at hu; omega
theorem ch_mul_unit {x u : Es} (hx : x ≠ int 0) (hu : nm u = 1) : ch (mul x u) = ch x := by
  have := (asoc_ch (ne_zero hx) (ne_zero (unit_ne hx hu))).1 (asoc_unit hu)
  exact eq this.1.symm this.2.symm
theorem chosen_self {x : Es} (h : isCh x.a x.b) : ch x = x := eq (ch_self h).1 (ch_self h).2
theorem ch_chosen {x : Es} (hx : x ≠ int 0) : isCh (ch x).a (ch x).b := ch_is (ne_zero hx)
theorem isCh_ne {x : Es} (h : isCh x.a x.b) : x ≠ int 0 := by
  intro e
  rw [e] at h
  have := h.1
  show False
  exact absurd this (by decide)
/-- Chosen numbers that divide one another are the same. -/
theorem chosen_eq {x y : Es} (hx : isCh x.a x.b) (hy : isCh y.a y.b) (hd : dv x y) (hn : nm y = nm x) : x = y := by
  obtain ⟨u, hu, e⟩ := dv_back hd hn (isCh_ne hx)
  have := ch_mul_unit (isCh_ne hx) hu
  rw [← e, chosen_self hx, chosen_self hy] at this
  exact this.symm
/-- The mirrored number. -/
def mir (x : Es) : Es := ⟨x.a, x.a - x.b⟩
theorem nm_mir (x : Es) : nm (mir x) = nm x := by
  show nrm x.a (x.a - x.b) = nrm x.a x.b
  unfold nrm
  simp only [Int.mul_sub, Int.sub_mul, Int.mul_comm x.b]; omega
theorem ch_conj {x : Es} (h : isCh x.a x.b) (hb : 1 ≤ x.b) : ch (conj x) = mir x := by
  obtain ⟨h1, h2, h3⟩ := h
  have e1 : ¬ (1 ≤ x.a - x.b ∧ 0 ≤ -x.b ∧ -x.b < x.a - x.b) := by omega
  have e2 : 0 ≤ x.a - x.b ∧ -x.b ≤ -1 := by omega
  apply eq
  · show chA (x.a - x.b) (-x.b) = x.a
    unfold chA; rw [if_neg e1, if_pos e2]; omega
  · show chB (x.a - x.b) (-x.b) = x.a - x.b
    unfold chB; rw [if_neg e1, if_pos e2]
theorem prm_of {x : Es} {p : Nat} (hp : isP p) (h : nm x = p) : prm x := by
  refine ⟨by have := hp.1; omega, fun y hy => ?_⟩
  have h1 := dv_nm hy
  obtain ⟨d, hd⟩ := Int.eq_ofNat_of_zero_le (nm_nn y)
  rw [hd, h, Int.natCast_dvd_natCast] at h1
  rcases hp.2 d h1 with e | e
  · left; rw [hd, e]; rfl
  · right; rw [hd, h, e]
theorem prm_inert {q : Nat} (hq : isP q) (h3 : q % 3 = 2) : prm (int q) := by
  have h0 := hq.1
  have hn : nm (int q) = ((q * q : Nat) : Int) := by rw [nm_int, Int.natCast_mul]
  refine ⟨?_, fun y hy => ?_⟩
  · rw [hn]
    have := Nat.mul_le_mul h0 h0
    omega
  · have h1 := dv_nm hy
    obtain ⟨d, hd⟩ := Int.eq_ofNat_of_zero_le (nm_nn y)
    rw [hd, hn, Int.natCast_dvd_natCast] at h1
    rcases dvd_sq hq h1 with e | e | e
    · left; rw [hd, e]; rfl
    · exfalso
      subst e
      have h2 := inert hq h3 (a := y.a) (b := y.b) (by unfold nm at hd; rw [hd]; exact Int.dvd_refl _)
      obtain ⟨m, hm⟩ := dv_int.2 h2
      have h4 := nm_mul (int d) m
      rw [← hm, hd, hn] at h4
      have h5 := nm_nn m
      obtain ⟨k, hk⟩ := Int.eq_ofNat_of_zero_le h5
      rw [hk, ← Int.natCast_mul] at h4
      have h6 : d = d * d * k := by omega
      rcases Nat.eq_zero_or_pos k with h7 | h7
      · subst h7; omega
      · have h8 := Nat.mul_le_mul (show d * 2 ≤ d * d from Nat.mul_le_mul_left d h0) h7
        omega
    · right; rw [hd, hn, e]
/-- Chosen numbers with the same prime norm: one, or its mirrored one. -/
theorem two {x y : Es} {p : Nat} (hp : isP p) (hx : isCh x.a x.b) (hy : isCh y.a y.b) (h : nm x = p) (k : nm y = p) : y = x ∨ (1 ≤ x.b ∧ y = mir x) := by
  have hm := prm_of hp h
  have h1 : dv x (mul y (conj y)) := by
    rw [mul_conj, k, ← h, ← mul_conj]
    exact dv_mul (dv_refl x) _
  rcases prm_dv hm h1 with h2 | h2
  · exact .inl (chosen_eq hx hy h2 (by rw [h, k])).symm
  · have h3 : dv (conj x) y := by have := dv_conj h2; rwa [conj_conj] at this
    have hc : conj x ≠ int 0 := by
      intro e
      have := nm_conj x
      rw [e, nm_int, h] at this
      have := hp.1
      omega
    obtain ⟨u, hu, e⟩ := dv_back h3 (by rw [k, nm_conj, h]) hc
    have h4 : y = ch (conj x) := by
      rw [← chosen_self hy, e]
      exact ch_mul_unit hc hu
    rcases Int.lt_or_le x.b 1 with h5 | h5
    · left
      have hb : x.b = 0 := by have := hx.2.1; omega
      have : conj x = x := by
        apply eq
        · show x.a - x.b = x.a; omega
        · show -x.b = x.b; omega
      rw [h4, this, chosen_self hx]
    · right
      exact ⟨h5, by rw [h4, ch_conj hx h5]⟩
end Es

/-- The first chosen number with a norm: its second Part is at most half of the first one. -/
structure Fst (p : Nat) (A B : Nat) : Prop where
  pos : 1 ≤ A
  half : 2 * B ≤ A
  nm : nrm (A : Int) (B : Int) = p
theorem Fst.ch {p A B : Nat} (h : Fst p A B) : isCh A B := ⟨by have := h.pos; omega, by omega, by have := h.half; have := h.pos; omega⟩
theorem fst_ex {p : Nat} (hp : isP p) (h3 : ¬ p % 3 = 2) : ∃ A B, Fst p A B := by
  have h0 := hp.1
  by_cases h : p % 3 = 0
  · have : p = 3 := by rcases hp.2 3 (Nat.dvd_of_mod_eq_zero h) with h | h <;> omega
    subst this
    exact ⟨2, 1, by omega, by omega, by decide⟩
  · obtain ⟨a, b, hab⟩ := split hp (by omega)
    have hne : (⟨a, b⟩ : Es) ≠ Es.int 0 := by
      intro e
      have := congrArg Es.nm e
      rw [Es.nm_int] at this
      unfold Es.nm at this
      simp only at this
      omega
    have h1 := Es.ch_chosen hne
    have h2 := Es.nm_ch hne
    have h2' : nrm (Es.ch ⟨a, b⟩).a (Es.ch ⟨a, b⟩).b = p := h2.trans hab
    generalize Es.ch ⟨a, b⟩ = y at h1 h2'
    obtain ⟨g1, g2, g3⟩ := h1
    obtain ⟨A, hA⟩ := Int.eq_ofNat_of_zero_le (show 0 ≤ y.a by omega)
    obtain ⟨B, hB⟩ := Int.eq_ofNat_of_zero_le g2
    have h4 := Es.nm_mir y
    unfold Es.nm Es.mir at h4
    simp only at h4
    by_cases h5 : 2 * B ≤ A
    · exact ⟨A, B, by omega, h5, by rw [hA, hB] at h2'; exact h2'⟩
    · exact ⟨A, A - B, by omega, by omega, by rw [← h2', ← h4, hA, hB, show ((A - B : Nat) : Int) = (A : Int) - B by omega]⟩
theorem nrm_mono {a A b : Int} (h : a ≤ A) (h2 : b ≤ A) (h3 : 0 ≤ a) : nrm a b ≤ nrm A b := by
  have h1 := Int.mul_nonneg (show 0 ≤ A - a by omega) (show 0 ≤ A + a - b by omega)
  unfold nrm
  simp only [Int.mul_add, Int.sub_mul, Int.mul_sub] at h1
  rw [Int.mul_comm A a] at h1
  omega
theorem nrm_anti {A b B : Int} (h : b ≤ B) (h2 : 2 * B ≤ A) : nrm A B ≤ nrm A b := by
  have h1 := Int.mul_nonneg (show 0 ≤ B - b by omega) (show 0 ≤ A - B - b by omega)
  unfold nrm
  simp only [Int.mul_add, Int.sub_mul, Int.mul_sub] at h1
  rw [Int.mul_comm B A, Int.mul_comm b A, Int.mul_comm b B] at h1
  omega
/-- The stairs step beyond neither Part. -/
theorem stair_up {p A B a b : Nat} (h : Fst p A B) (ha : a ≤ A) (hb : b ≤ B) (hn : nrm (a : Int) b < p) : a < A := by
  rcases Nat.lt_or_ge a A with h1 | h1
  · exact h1
  · obtain rfl : a = A := by omega
    have := nrm_anti (A := (a : Int)) (b := b) (B := B) (by omega) (by have := h.half; omega)
    have := h.nm
    omega
theorem stair_right {p A B a b : Nat} (h : Fst p A B) (ha : a ≤ A) (hb : b ≤ B) (hn : (p : Int) < nrm (a : Int) b) : b < B := by
  rcases Nat.lt_or_ge b B with h1 | h1
  · exact h1
  · obtain rfl : b = B := by omega
    have := nrm_mono (A := (A : Int)) (b := b) (a := a) (by omega) (by have := h.half; omega) (by omega)
    have := h.nm
    omega
theorem stair_end {p A B a b : Nat} (hp : isP p) (h : Fst p A B) (h1 : 1 ≤ a) (ha : a ≤ A) (hb : b ≤ B) (hn : nrm (a : Int) b = p) : a = A ∧ b = B := by
  have h0 := hp.1
  rcases Nat.lt_or_ge b a with h2 | h2
  · have hc : isCh ((a : Nat) : Int) (b : Nat) := ⟨by omega, by omega, by omega⟩
    rcases Es.two hp (x := ⟨A, B⟩) (y := ⟨a, b⟩) h.ch hc h.nm hn with e | ⟨h3, e⟩
    · have e1 := congrArg Es.a e; have e2 := congrArg Es.b e
      simp only at e1 e2
      omega
    · have e1 := congrArg Es.a e; have e2 := congrArg Es.b e
      simp only [Es.mir] at e1 e2
      have := h.half
      omega
  · exfalso
    have e1 : nrm (a : Int) b ≤ (b : Int) * b := by
      have := Int.mul_nonneg (show 0 ≤ (a : Int) by omega) (show 0 ≤ (b : Int) - a by omega)
      unfold nrm
      rw [Int.mul_sub] at this
      omega
    have e2 : (b : Int) * b ≤ B * B := Int.mul_le_mul (by omega) (by omega) (by omega) (by omega)
    have e5 := h.nm
    have e6 := Int.mul_nonneg (show 0 ≤ (A : Int) - 2 * B by have := h.half; omega) (show 0 ≤ (A : Int) by omega)
    have e7 := Int.mul_pos (show 0 < (A : Int) by have := h.pos; omega) (show 0 < (A : Int) by have := h.pos; omega)
    have e8 : nrm (A : Int) B = (A : Int) * A - A * B + B * B := rfl
    rw [Int.sub_mul, show (2 : Int) * B * A = (A * B + A * B) by rw [Int.mul_assoc, Int.mul_comm (B : Int) A]; omega] at e6
    omega
theorem Fst.uniq {p A B C D : Nat} (hp : isP p) (h : Fst p A B) (k : Fst p C D) : A = C ∧ B = D := by
  rcases Es.two hp (x := ⟨C, D⟩) (y := ⟨A, B⟩) k.ch h.ch k.nm h.nm with e | ⟨h3, e⟩
  · have e1 := congrArg Es.a e; have e2 := congrArg Es.b e
    simp only at e1 e2
    omega
  · have e1 := congrArg Es.a e; have e2 := congrArg Es.b e
    simp only [Es.mir] at e1 e2
    have := h.half; have := k.half
    omega
/-- Parts of it are at most the number itself. -/
theorem Fst.bd {p A B : Nat} (h : Fst p A B) (hp : p ≤ 300000000) : A ≤ 20000 ∧ B ≤ 10000 := by
  have := nrm_small (a := A) (b := B) (by have := h.nm; omega)
  have := h.half
  omega
/-- The square of a prime number with the rest 2: it alone, of the chosen numbers, has this norm. -/
theorem inert_one {q : Nat} (hq : isP q) (h3 : q % 3 = 2) {a b : Int} (hc : isCh a b) (h : nrm a b = ((q * q : Nat) : Int)) : a = q ∧ b = 0 := by
  have h0 := hq.1
  have h1 := inert hq h3 (a := a) (b := b) (by rw [h, Int.natCast_mul]; exact ⟨_, rfl⟩)
  have h2 := (Es.dv_int (x := ⟨a, b⟩)).2 h1
  have hi : isCh (Es.int q).a (Es.int q).b := ⟨by show 1 ≤ (q : Int); omega, by show (0 : Int) ≤ 0; omega, by show 0 < (q : Int); omega⟩
  have := Es.chosen_eq hi (y := ⟨a, b⟩) hc h2 (by rw [Es.nm_int]; exact h.trans (Int.natCast_mul _ _))
  have e1 := congrArg Es.a this; have e2 := congrArg Es.b this
  exact ⟨e1.symm, e2.symm⟩
theorem inert_no {q : Nat} (hq : isP q) (h3 : q % 3 = 2) (a b : Int) : ¬ nrm a b = q := by
  intro h
  have h0 := hq.1
  have h1 := inert hq h3 (a := a) (b := b) (by rw [h]; exact Int.dvd_refl _)
  obtain ⟨m, hm⟩ := (Es.dv_int (x := ⟨a, b⟩)).2 h1
  have h4 := Es.nm_mul (Es.int q) m
  rw [← hm, Es.nm_int] at h4
  have h5 : Es.nm ⟨a, b⟩ = q := h
  rw [h5] at h4
  obtain ⟨k, hk⟩ := Int.eq_ofNat_of_zero_le (Es.nm_nn m)
  rw [hk, ← Int.natCast_mul, ← Int.natCast_mul] at h4
  have h6 : q = q * q * k := by omega
  rcases Nat.eq_zero_or_pos k with h7 | h7
  · subst h7; omega
  · have h8 := Nat.mul_le_mul (show q * 2 ≤ q * q from Nat.mul_le_mul_left q h0) h7
    omega
end Go.Proofs.Ytfadlnbmpgbeaaa
