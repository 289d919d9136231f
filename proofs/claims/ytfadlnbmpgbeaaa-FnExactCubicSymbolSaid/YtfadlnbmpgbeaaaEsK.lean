/- Powers modulo primes among the numbers a + b z, and cubic symbols, by reckoning. Plain facts, no walk. -/
import Derived.Test.YtfadlnbmpgbeaaaEsI
namespace Go.Proofs.Ytfadlnbmpgbeaaa
set_option linter.unusedSimpArgs false
set_option linter.unusedVariables false

namespace Es
/-- Equal up to multiples of y. -/
def cg (y u v : Es) : Prop := dv y (sub u v)
theorem cg_refl (y u : Es) : cg y u u := by unfold cg; rw [sub_self]; exact dv_zero y
theorem sub_swap (u v : Es) : sub v u = mul (int (-1)) (sub u v) := by
  rw [int_mula]
  apply eq
  · show v.a - u.a = -1 * (u.a - v.a); omega
  · show v.b - u.b = -1 * (u.b - v.b); omega
theorem cg_symm {y u v : Es} (h : cg y u v) : cg y v u := by
  unfold cg at *
  rw [sub_swap]
  exact dv_mulr h _
theorem cg_trans {y u v t : Es} (h : cg y u v) (k : cg y v t) : cg y u t := by
  unfold cg at *
  have := dv_add h k
  have e : add (sub u v) (sub v t) = sub u t := by
    apply eq
    · show u.a - v.a + (v.a - t.a) = u.a - t.a; omega
    · show u.b - v.b + (v.b - t.b) = u.b - t.b; omega
  rwa [e] at this
theorem cg_mul {y u v s t : Es} (h : cg y u v) (k : cg y s t) : cg y (mul u s) (mul v t) := by
  unfold cg at *
  have h1 := dv_mul h s
  have h2 := dv_mulr k v
  have := dv_add h1 h2
  have e : add (mul (sub u v) s) (mul v (sub s t)) = sub (mul u s) (mul v t) := by
    rw [mul_comm (sub u v) s, mul_sub, mul_sub, mul_comm s u, mul_comm s v]
    apply eq
    · show (mul u s).a - (mul v s).a + ((mul v s).a - (mul v t).a) = (mul u s).a - (mul v t).a; omega
    · show (mul u s).b - (mul v s).b + ((mul v s).b - (mul v t).b) = (mul u s).b - (mul v t).b; omega
  rwa [e] at this
theorem cg_pw {y u v : Es} (h : cg y u v) : ∀ n, cg y (pw u n) (pw v n)
  | 0 => cg_refl _ _
  | n + 1 => cg_mul (cg_pw h n) h
theorem cg_add {y u v s t : Es} (h : cg y u v) (k : cg y s t) : cg y (add u s) (add v t) := by
  unfold cg at *
  have := dv_add h k
  have e : add (sub u v) (sub s t) = sub (add u s) (add v t) := by
    apply eq
    · show u.a - v.a + (s.a - t.a) = u.a + s.a - (v.a + t.a); omega
    · show u.b - v.b + (s.b - t.b) = u.b + s.b - (v.b + t.b); omega
  rwa [e] at this
theorem cg_dv {y z u v : Es} (hd : dv y z) (h : cg z u v) : cg y u v := dv_trans hd h
theorem cg_zero {y u v : Es} (h : cg y u v) (k : dv y v) : dv y u := by
  have := dv_add h k
  rwa [sub_add] at this
/-- The third root of 1. -/
def om : Es := ⟨0, 1⟩
theorem om3 : pw om 3 = int 1 := rfl
theorem om_pw (n : Nat) : pw om (3 * n + 1) = om := by
  rw [pw_add, pw_mul, om3, one_pw, one_mul, pw_one]
theorem om_pw2 (n : Nat) : pw om (3 * n + 2) = ⟨-1, -1⟩ := by
  rw [pw_add, pw_mul, om3, one_pw, one_mul]; rfl
theorem split_om (x : Es) : x = add (int x.a) (mul (int x.b) om) := by
  rw [int_mula]
  apply eq
  · show x.a = x.a + x.b * 0; omega
  · show x.b = 0 + x.b * 1; omega
theorem int_cg {p : Nat} (hp : isP p) (m : Int) : cg (int p) (int (m ^ p)) (int m) := by
  refine dv_int.2 ⟨fermat hp m, Int.dvd_zero _⟩
/-- The p-th power, up to multiples of p. -/
theorem frob_om {p : Nat} (hp : isP p) (x : Es) : cg (int p) (pw x p) (add (int x.a) (mul (int x.b) (pw om p))) := by
  have h := frob hp (int x.a) (mul (int x.b) om)
  rw [← split_om] at h
  refine cg_trans h ?_
  rw [pw_int, mul_pw, pw_int]
  exact cg_add (int_cg hp _) (cg_mul (int_cg hp _) (cg_refl _ _))
theorem fermat_split {p : Nat} (hp : isP p) (h3 : p % 3 = 1) (x : Es) : cg (int p) (pw x p) x := by
  have h := frob_om hp x
  have e : p = 3 * (p / 3) + 1 := by omega
  have e2 : pw om p = om := by rw [e]; exact om_pw _
  rw [e2, ← split_om] at h
  exact h
theorem frob_conj {q : Nat} (hq : isP q) (h3 : q % 3 = 2) (x : Es) : cg (int q) (pw x q) (conj x) := by
  have h := frob_om hq x
  have e : q = 3 * (q / 3) + 2 := by omega
  have e2 : pw om q = ⟨-1, -1⟩ := by rw [e]; exact om_pw2 _
  rw [e2] at h
  have e3 : add (int x.a) (mul (int x.b) ⟨-1, -1⟩) = conj x := by
    rw [int_mula]
    apply eq
    · show x.a + x.b * -1 = x.a - x.b; omega
    · show 0 + x.b * -1 = -x.b; omega
  rwa [e3] at h
theorem fermat_inert {q : Nat} (hq : isP q) (h3 : q % 3 = 2) (x : Es) : cg (int q) (pw x (q * q)) x := by
  rw [pw_mul]
  have h1 := cg_pw (frob_conj hq h3 x) q
  have h2 := frob_conj hq h3 (conj x)
  rw [conj_conj] at h2
  exact cg_trans h1 h2

/-- A prime with the norm N, no multiple of 3. -/
structure PrN (y : Es) (N : Nat) : Prop where
  nm : nm y = N
  prm : prm y
  mod : N % 3 = 1
  two : 4 ≤ N
  fer : ∀ x, cg y (pw x N) x
theorem prN_split {y : Es} {p : Nat} (hp : isP p) (h3 : ¬ p % 3 = 0) (h : nm y = p) : PrN y p := by
  have h0 := hp.1
  have h1 : p % 3 = 1 := by
    have : ¬ p % 3 = 2 := fun h2 => inert_no hp h2 y.a y.b h
    omega
  refine ⟨h, prm_of hp h, h1, by omega, fun x => cg_dv ?_ (fermat_split hp h1 x)⟩
  rw [← h, ← mul_conj]
  exact dv_mul (dv_refl y) _
theorem prN_inert {y : Es} {q : Nat} (hq : isP q) (h3 : q % 3 = 2) (h : nm y = ((q * q : Nat) : Int)) : PrN y (q * q) := by
  have h0 := hq.1
  have h1 := inert hq h3 (a := y.a) (b := y.b) (by unfold nm at h; rw [h, Int.natCast_mul]; exact ⟨_, rfl⟩)
  obtain ⟨m, hm⟩ := dv_int.2 h1
  have h2 := nm_mul (int q) m
  rw [← hm, h, nm_int] at h2
  have hq2 : (0 : Int) < (q : Int) * q := Int.mul_pos (by omega) (by omega)
  have hu : nm m = 1 := by
    rw [Int.natCast_mul] at h2
    have : (q : Int) * q * nm m = (q : Int) * q * 1 := by omega
    exact Int.eq_of_mul_eq_mul_left (by omega) this
  have hd : dv y (int q) := ⟨conj m, by rw [hm, mul_assoc, mul_conj, hu, mul_one]⟩
  have hpr := prm_inert hq h3
  have hd2 : dv (int q) y := ⟨m, hm⟩
  have h9 := Nat.mul_le_mul h0 h0
  refine ⟨h, ⟨by rw [h]; omega, fun z hz => ?_⟩, ?_, by omega, fun x => cg_dv hd (fermat_inert hq h3 x)⟩
  · have := hpr.2 z (dv_trans hz hd)
    rw [nm_int, ← Int.natCast_mul, ← h] at this
    exact this
  · have : q * q % 3 = q % 3 * (q % 3) % 3 := Nat.mul_mod _ _ _
    rw [h3] at this
    exact this

theorem sub_dv_one {y : Es} {N : Nat} (h : PrN y N) {u : Es} (hu : nm u = 1) : ¬ dv y u := by
  intro hd
  have := dv_nm hd
  rw [h.nm, hu] at this
  have h1 := Int.le_of_dvd (by omega) this
  have := h.two
  omega
theorem sub_dv_three {y : Es} {N : Nat} (h : PrN y N) {u : Es} (hu : nm u = 3) : ¬ dv y u := by
  intro hd
  have h1 := dv_nm hd
  rw [h.nm, hu] at h1
  have h2 := Int.le_of_dvd (by omega) h1
  have := h.two
  omega
/-- The k-th root. -/
def rt : Nat → Es
  | 0 => int 1
  | 1 => om
  | _ => ⟨-1, -1⟩
theorem rt_nm (k : Nat) : nm (rt k) = 1 := by
  match k with
  | 0 => rfl
  | 1 => rfl
  | k + 2 => rfl
theorem rt_diff {i j : Nat} (hi : i < 3) (hj : j < 3) (h : i ≠ j) : nm (sub (rt i) (rt j)) = 3 := by
  have h1 : i = 0 ∨ i = 1 ∨ i = 2 := by omega
  have h2 : j = 0 ∨ j = 1 ∨ j = 2 := by omega
  rcases h1 with rfl | rfl | rfl <;> rcases h2 with rfl | rfl | rfl <;> first | exact absurd rfl h | rfl
theorem rt_uniq {y : Es} {N : Nat} (h : PrN y N) {P : Es} {i j : Nat} (hi : i < 3) (hj : j < 3) (k1 : cg y P (rt i)) (k2 : cg y P (rt j)) : i = j := by
  rcases Nat.lt_or_ge i j with g | g
  · exact absurd (cg_trans (cg_symm k1) k2) (sub_dv_three h (rt_diff hi hj (by omega)))
  · rcases Nat.lt_or_ge j i with g2 | g2
    · exact absurd (cg_trans (cg_symm k1) k2) (sub_dv_three h (rt_diff hi hj (by omega)))
    · omega
/-- A divided number's power is no root. -/
theorem rt_none {y : Es} {N : Nat} (h : PrN y N) {P : Es} (hd : dv y P) (i : Nat) : ¬ cg y P (rt i) := by
  intro k
  exact sub_dv_one h (rt_nm i) (cg_zero (cg_symm k) hd)
theorem cube_roots (t : Es) : mul (sub t (rt 0)) (mul (sub t (rt 1)) (sub t (rt 2))) = sub (pw t 3) (int 1) := by
  apply eq
  · show tA (t.a - 1) (t.b - 0) (tA (t.a - 0) (t.b - 1) (t.a - -1) (t.b - -1)) (tB (t.a - 0) (t.b - 1) (t.a - -1) (t.b - -1)) = tA (tA (tA 1 0 t.a t.b) (tB 1 0 t.a t.b) t.a t.b) (tB (tA 1 0 t.a t.b) (tB 1 0 t.a t.b) t.a t.b) t.a t.b - 1
    unfold tA tB
    rw [show t.a - -1 = t.a + 1 by omega, show t.b - -1 = t.b + 1 by omega, show t.a - 0 = t.a by omega, show t.b - 0 = t.b by omega]
    simp only [Int.mul_add, Int.add_mul, Int.sub_mul, Int.mul_sub, Int.one_mul, Int.mul_one, Int.zero_mul, Int.sub_zero, Int.zero_add, Int.add_zero, Int.mul_assoc, Int.mul_comm, Int.mul_left_comm]; omega
  · show tB (t.a - 1) (t.b - 0) (tA (t.a - 0) (t.b - 1) (t.a - -1) (t.b - -1)) (tB (t.a - 0) (t.b - 1) (t.a - -1) (t.b - -1)) = tB (tA (tA 1 0 t.a t.b) (tB 1 0 t.a t.b) t.a t.b) (tB (tA 1 0 t.a t.b) (tB 1 0 t.a t.b) t.a t.b) t.a t.b - 0
    unfold tA tB
    rw [show t.a - -1 = t.a + 1 by omega, show t.b - -1 = t.b + 1 by omega, show t.a - 0 = t.a by omega, show t.b - 0 = t.b by omega]
    simp only [Int.mul_add, Int.add_mul, Int.sub_mul, Int.mul_sub, Int.one_mul, Int.mul_one, Int.zero_mul, Int.sub_zero, Int.zero_add, Int.add_zero, Int.mul_assoc, Int.mul_comm, Int.mul_left_comm]; omega
/-- Any other number's power is one of the roots. -/
theorem rt_some {y : Es} {N : Nat} (h : PrN y N) {x : Es} (hx : ¬ dv y x) : ∃ i, i < 3 ∧ cg y (pw x ((N - 1) / 3)) (rt i) := by
  have h1 := h.mod
  have h2 := h.two
  have e : N = (N - 1) / 3 * 3 + 1 := by omega
  have hf := h.fer x
  rw [e] at hf
  have hf2 : dv y (mul (sub (pw x ((N - 1) / 3 * 3)) (int 1)) x) := by
    have e2 : mul (sub (pw x ((N - 1) / 3 * 3)) (int 1)) x = sub (pw x ((N - 1) / 3 * 3 + 1)) x := by
      rw [mul_comm, mul_sub, mul_one, mul_comm]; rfl
    rw [e2]; exact hf
  have h3 := (prm_dv h.prm hf2).resolve_right hx
  rw [pw_mul, ← cube_roots] at h3
  rcases prm_dv h.prm h3 with h4 | h4
  · exact ⟨0, by omega, h4⟩
  · rcases prm_dv h.prm h4 with h5 | h5
    · exact ⟨1, by omega, h5⟩
    · exact ⟨2, by omega, h5⟩
theorem pw_dv {y x : Es} (h : dv y x) {k : Nat} (hk : 1 ≤ k) : dv y (pw x k) := by
  obtain ⟨j, rfl⟩ : ∃ j, k = j + 1 := ⟨k - 1, by omega⟩
  exact dv_mulr h _
/-- The rest is 0 just when the number is divided. -/
theorem rest_dv {a b c d : Int} (hn : 1 ≤ nrm c d) : (rA a b c d = 0 ∧ rB a b c d = 0) ↔ dv ⟨c, d⟩ ⟨a, b⟩ := by
  have er : (⟨rA a b c d, rB a b c d⟩ : Es) = sub ⟨a, b⟩ (mul ⟨c, d⟩ ⟨qA a b c d, qB a b c d⟩) := by
    rw [mul_comm]; rfl
  constructor
  · rintro ⟨h1, h2⟩
    refine ⟨⟨qA a b c d, qB a b c d⟩, ?_⟩
    rw [h1, h2] at er
    have e := sub_add (⟨a, b⟩ : Es) (mul ⟨c, d⟩ ⟨qA a b c d, qB a b c d⟩)
    rw [← er] at e
    rw [← e, add_comm]
    exact add_zero _
  · intro hd
    have h1 : dv (⟨c, d⟩ : Es) ⟨rA a b c d, rB a b c d⟩ := by
      rw [er]; exact dv_sub hd (dv_mul (dv_refl _) _)
    have h2 := dv_nm h1
    have h3 := rest_norm (a := a) (b := b) hn
    have h4 : nm (⟨rA a b c d, rB a b c d⟩ : Es) = nrm (rA a b c d) (rB a b c d) := rfl
    have h5 : nm (⟨c, d⟩ : Es) = nrm c d := rfl
    rw [h4, h5] at h2
    have h6 := nrm_nn (rA a b c d) (rB a b c d)
    have h7 : nrm (rA a b c d) (rB a b c d) ≤ 0 := by
      rcases Int.lt_or_le 0 (nrm (rA a b c d) (rB a b c d)) with g | g
      · have := Int.le_of_dvd g h2
        omega
      · exact g
    exact nrm_zero h7
theorem rest_cg {a b c d : Int} : cg ⟨c, d⟩ ⟨rA a b c d, rB a b c d⟩ ⟨a, b⟩ := by
  have er : (⟨rA a b c d, rB a b c d⟩ : Es) = sub ⟨a, b⟩ (mul ⟨c, d⟩ ⟨qA a b c d, qB a b c d⟩) := by
    rw [mul_comm]; rfl
  apply cg_symm
  unfold cg
  rw [er]
  have : sub (⟨a, b⟩ : Es) (sub ⟨a, b⟩ (mul ⟨c, d⟩ ⟨qA a b c d, qB a b c d⟩)) = mul ⟨c, d⟩ ⟨qA a b c d, qB a b c d⟩ := by
    apply eq
    · simp only [sub]; omega
    · simp only [sub]; omega
  rw [this]
  exact dv_mul (dv_refl _) _
/-- One step of powers by squares: odd. -/
theorem step_odd {y P S X : Es} {e : Nat} (h : cg y (mul P (pw S (2 * e + 1))) X) : cg y (mul (mul P S) (pw (mul S S) e)) X := by
  have e1 : mul P (pw S (2 * e + 1)) = mul (mul P S) (pw (mul S S) e) := by
    rw [Nat.add_comm, pw_add, pw_one, pw_mul, mul_assoc]
    congr 1
    congr 1
    show pw (mul (mul (int 1) S) S) e = _
    rw [one_mul]
  rwa [← e1]
theorem step_even {y P S X : Es} {e : Nat} (h : cg y (mul P (pw S (2 * e))) X) : cg y (mul P (pw (mul S S) e)) X := by
  have e1 : mul P (pw S (2 * e)) = mul P (pw (mul S S) e) := by
    rw [pw_mul]
    congr 1
    show pw (mul (mul (int 1) S) S) e = _
    rw [one_mul]
  rwa [← e1]
end Es
end Go.Proofs.Ytfadlnbmpgbeaaa
