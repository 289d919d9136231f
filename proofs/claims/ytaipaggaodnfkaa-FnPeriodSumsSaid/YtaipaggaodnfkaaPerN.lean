/- Period polynomials: plain facts, by reckoning. -/
import Derived.Test.YtaipaggaodnfkaaPerI
namespace Go.Proofs.Ytaipaggaodnfkaa
set_option linter.unusedVariables false

/-! Values are reckoned before they are handed on. -/
section
variable {α : Type}
def fN (n : Nat) (k : Nat → α) : α := match n with | 0 => k 0 | m + 1 => k (m + 1)
def fI (x : Int) (k : Int → α) : α := match x with | .ofNat n => fN n (fun n => k (.ofNat n)) | .negSucc n => fN n (fun n => k (.negSucc n))
def fLi : List Int → (List Int → α) → α
  | [], k => k []
  | x :: xs, k => fI x (fun x => fLi xs (fun xs => k (x :: xs)))
def fLL : List (List Int) → (List (List Int) → α) → α
  | [], k => k []
  | x :: xs, k => fLi x (fun x => fLL xs (fun xs => k (x :: xs)))
theorem fN_eq (n : Nat) (k : Nat → α) : fN n k = k n := by cases n <;> rfl
theorem fI_eq (x : Int) (k : Int → α) : fI x k = k x := by
  cases x with
  | ofNat n => exact fN_eq n (fun n => k (.ofNat n))
  | negSucc n => exact fN_eq n (fun n => k (.negSucc n))
theorem fLi_eq : ∀ (l : List Int) (k : List Int → α), fLi l k = k l
  | [], _ => rfl
  | x :: xs, k => by unfold fLi; rw [fI_eq, fLi_eq xs]
theorem fLL_eq : ∀ (l : List (List Int)) (k : List (List Int) → α), fLL l k = k l
  | [], _ => rfl
  | x :: xs, k => by unfold fLL; rw [fLi_eq, fLL_eq xs]
end
def g2 (L : List (List Int)) (i j : Nat) : Int := (L.getD i []).getD j 0
/-- The table of products. -/
def prodT (p e : Nat) : List (List Int) := (List.range e).map (fun i => (List.range e).map (fun j => prodR p e i j))
/-- A polynomial times x less h(i). -/
def stepT (T : List (List Int)) (e i : Nat) (L : List (List Int)) : List (List Int) :=
  (List.range (i + 2)).map (fun a => (List.range e).map (fun t => (if 1 ≤ a then g2 L (a - 1) t else 0) - (if a ≤ i then sumN e (fun k => g2 L a ((i + k) % e) * g2 T k ((t + e - i) % e)) else 0)))
def polyT (T : List (List Int)) (e : Nat) : Nat → List (List Int)
  | 0 => [List.replicate e (-1)]
  | i + 1 => stepT T e i (polyT T e i)
/-- The powers of h(0). -/
def powStep (T : List (List Int)) (e : Nat) (P : List Int) : List Int :=
  (List.range e).map (fun t => sumN e (fun i => P.getD i 0 * g2 T ((e - i) % e) ((t + e - i) % e)))
def powT (T : List (List Int)) (e : Nat) : Nat → List Int
  | 0 => (List.range e).map (fun t => if t = 0 then 1 else 0)
  | k + 1 => powStep T e (powT T e k)
/-- Sums with signs, from sums of powers. -/
def newt (S : List Int) (k : Nat) (C : List Int) : Int := (sumN k (fun i => -(S.getD i 0 * C.getD (k - (i + 1)) 0))).tdiv (k : Int)
def newtT (S : List Int) : Nat → List Int
  | 0 => [1]
  | k + 1 => newtT S k ++ [newt S (k + 1) (newtT S k)]
def inB (x : Int) : Bool := decide (-10000000000 ≤ x) && decide (x ≤ 10000000000)
def trL (e : Nat) (P : List Int) : Int := -(sumN e (fun i => P.getD i 0))
def runP (T : List (List Int)) (e : Nat) (fin : List (List Int) → Bool) : Nat → Nat → List (List Int) → Bool
  | 0, _, L => L.all (fun r => r.all inB) && fin L
  | n + 1, i, L => L.all (fun r => r.all inB) && fLL (stepT T e i L) (fun L' => runP T e fin n (i + 1) L')
def runQ (T : List (List Int)) (e : Nat) (fin : List Int → Bool) : Nat → List Int → List Int → Bool
  | 0, P, S => P.all inB && S.all inB && fin S
  | n + 1, P, S => P.all inB && fI (trL e P) (fun s => fLi (powStep T e P) (fun P' => runQ T e fin n P' (S ++ [s])))
def runN (S : List Int) (fin : List Int → Bool) : Nat → Nat → List Int → Bool
  | 0, _, C => C.all inB && fin C
  | n + 1, k, C => C.all inB && fI (newt S (k + 1) C) (fun c => runN S fin n (k + 1) (C ++ [c]))
def polyChk (p e : Nat) : Bool :=
  fLL (prodT p e) (fun T => fLi (powT T e 0) (fun P0 => runQ T e (fun S => runN S (fun C => runP T e (fun L => (List.range (e + 1)).all (fun a => decide (-(g2 L a 0) = C.getD (e - a) 0))) e 0 (polyT T e 0)) e 0 [1]) e P0 []))
theorem poly_all : ((List.range 62).all fun p => !primeN p || (List.range 13).all fun e => decide (e = 0) || decide ((p - 1) % e ≠ 0) || polyChk p e) = true := by decide +kernel

theorem pe_of' {q : Nat → Nat → Bool} (h : ((List.range 62).all fun p => !primeN p || (List.range 13).all fun e => decide (e = 0) || decide ((p - 1) % e ≠ 0) || q p e) = true) {p e : Nat} (hp : primeN p = true) (h1 : 1 ≤ e) (h2 : e ≤ 12) (hd : (p - 1) % e = 0) : q p e = true := by
  have h3 := all_range (prime_of h hp) e (by omega)
  have e1 : decide (e = 0) = false := decide_eq_false (by omega)
  have e2 : decide ((p - 1) % e ≠ 0) = false := decide_eq_false (by simp [hd])
  simpa only [e1, e2, Bool.false_or] using h3
/-- The traces of the first k powers. -/
def trsT (T : List (List Int)) (e : Nat) : Nat → List Int
  | 0 => []
  | k + 1 => trsT T e k ++ [trL e (powT T e k)]
def bdL (l : List Int) : Prop := ∀ x ∈ l, inB x = true
def bdLL (l : List (List Int)) : Prop := ∀ r ∈ l, bdL r
theorem runP_ok {T : List (List Int)} {e : Nat} {fin : List (List Int) → Bool} : ∀ n i, runP T e fin n i (polyT T e i) = true → (∀ j, j ≤ n → bdLL (polyT T e (i + j))) ∧ fin (polyT T e (i + n)) = true
  | 0, i, h => by
    simp only [runP, Bool.and_eq_true] at h
    refine ⟨fun j hj => ?_, h.2⟩
    obtain rfl : j = 0 := by omega
    exact fun r hr x hx => List.all_eq_true.1 (List.all_eq_true.1 h.1 r hr) x hx
  | n + 1, i, h => by
    simp only [runP, Bool.and_eq_true] at h
    obtain ⟨h1, h2⟩ := h
    rw [fLL_eq] at h2
    obtain ⟨k1, k2⟩ := runP_ok n (i + 1) h2
    refine ⟨fun j hj => ?_, ?_⟩
    · cases j with
      | zero => exact fun r hr x hx => List.all_eq_true.1 (List.all_eq_true.1 h1 r hr) x hx
      | succ j => have := k1 j (by omega); rwa [show i + 1 + j = i + (j + 1) by omega] at this
    · rwa [show i + 1 + n = i + (n + 1) by omega] at k2
theorem runQ_ok {T : List (List Int)} {e : Nat} {fin : List Int → Bool} : ∀ n k, runQ T e fin n (powT T e k) (trsT T e k) = true → (∀ j, j ≤ n → bdL (powT T e (k + j))) ∧ bdL (trsT T e (k + n)) ∧ fin (trsT T e (k + n)) = true
  | 0, k, h => by
    simp only [runQ, Bool.and_eq_true] at h
    refine ⟨fun j hj => ?_, fun x hx => List.all_eq_true.1 h.1.2 x hx, h.2⟩
    obtain rfl : j = 0 := by omega
    exact fun x hx => List.all_eq_true.1 h.1.1 x hx
  | n + 1, k, h => by
    simp only [runQ, Bool.and_eq_true] at h
    obtain ⟨h1, h2⟩ := h
    rw [fI_eq, fLi_eq] at h2
    obtain ⟨k1, k2, k3⟩ := runQ_ok n (k + 1) h2
    refine ⟨fun j hj => ?_, ?_, ?_⟩
    · cases j with
      | zero => exact fun x hx => List.all_eq_true.1 h1 x hx
      | succ j => have := k1 j (by omega); rwa [show k + 1 + j = k + (j + 1) by omega] at this
    · rwa [show k + 1 + n = k + (n + 1) by omega] at k2
    · rwa [show k + 1 + n = k + (n + 1) by omega] at k3
theorem runN_ok {S : List Int} {fin : List Int → Bool} : ∀ n k, runN S fin n k (newtT S k) = true → (∀ j, j ≤ n → bdL (newtT S (k + j))) ∧ fin (newtT S (k + n)) = true
  | 0, k, h => by
    simp only [runN, Bool.and_eq_true] at h
    refine ⟨fun j hj => ?_, h.2⟩
    obtain rfl : j = 0 := by omega
    exact fun x hx => List.all_eq_true.1 h.1 x hx
  | n + 1, k, h => by
    simp only [runN, Bool.and_eq_true] at h
    obtain ⟨h1, h2⟩ := h
    rw [fI_eq] at h2
    obtain ⟨k1, k2⟩ := runN_ok n (k + 1) h2
    refine ⟨fun j hj => ?_, ?_⟩
    · cases j with
      | zero => exact fun x hx => List.all_eq_true.1 h1 x hx
      | succ j => have := k1 j (by omega); rwa [show k + 1 + j = k + (j + 1) by omega] at this
    · rwa [show k + 1 + n = k + (n + 1) by omega] at k2
/-- The sums with signs of p, e. -/
def cofN (p e : Nat) : List Int := newtT (trsT (prodT p e) e e) e
/-- The polynomials, and the powers, as functions. -/
def polyF (p e i : Nat) (a t : Nat) : Int := g2 (polyT (prodT p e) e i) a t
def powF (p e k : Nat) (t : Nat) : Int := (powT (prodT p e) e k).getD t 0
theorem poly_ok {p e : Nat} (hp : primeN p = true) (h1 : 1 ≤ e) (h2 : e ≤ 12) (hd : (p - 1) % e = 0) :
    (∀ k, k ≤ e → bdL (powT (prodT p e) e k)) ∧ bdL (trsT (prodT p e) e e) ∧ (∀ k, k ≤ e → bdL (newtT (trsT (prodT p e) e e) k)) ∧ (∀ i, i ≤ e → bdLL (polyT (prodT p e) e i)) ∧ ∀ a, a ≤ e → -(polyF p e e a 0) = (cofN p e).getD (e - a) 0 := by
  have h := pe_of' poly_all hp h1 h2 hd
  unfold polyChk at h
  rw [fLL_eq, fLi_eq] at h
  obtain ⟨a1, a2, a3⟩ := runQ_ok e 0 h
  simp only [Nat.zero_add] at a1 a2 a3
  obtain ⟨b1, b2⟩ := runN_ok e 0 a3
  simp only [Nat.zero_add] at b1 b2
  obtain ⟨c1, c2⟩ := runP_ok e 0 b2
  simp only [Nat.zero_add] at c1 c2
  refine ⟨a1, a2, b1, c1, fun a ha => ?_⟩
  have h9 := all_range c2 a (by omega)
  exact of_decide_eq_true h9
theorem getD_bd {l : List Int} (h : bdL l) (i : Nat) : -10000000000 ≤ l.getD i 0 ∧ l.getD i 0 ≤ 10000000000 := by
  rcases Nat.lt_or_ge i l.length with hi | hi
  · have := h _ (List.getElem_mem hi)
    unfold inB at this
    simp only [Bool.and_eq_true, decide_eq_true_eq] at this
    rw [List.getD_eq_getElem?_getD, List.getElem?_eq_getElem hi]
    exact this
  · rw [List.getD_eq_getElem?_getD, List.getElem?_eq_none hi]
    decide
theorem g2_bd {l : List (List Int)} (h : bdLL l) (i j : Nat) : -10000000000 ≤ g2 l i j ∧ g2 l i j ≤ 10000000000 := by
  unfold g2
  rcases Nat.lt_or_ge i l.length with hi | hi
  · have := h _ (List.getElem_mem hi)
    rw [List.getD_eq_getElem?_getD (l := l), List.getElem?_eq_getElem hi]
    exact getD_bd this j
  · rw [List.getD_eq_getElem?_getD (l := l), List.getElem?_eq_none hi]
    exact getD_bd (l := []) (fun x hx => absurd hx List.not_mem_nil) j
theorem getD_map {α : Type} (F : Nat → α) (d : α) {n i : Nat} (hi : i < n) : ((List.range n).map F).getD i d = F i := by
  rw [List.getD_eq_getElem?_getD, List.getElem?_map, List.getElem?_range hi]; rfl
theorem g2_prod {p e i j : Nat} (hi : i < e) (hj : j < e) : g2 (prodT p e) i j = prodR p e i j := by
  unfold g2 prodT
  rw [getD_map _ _ hi, getD_map _ _ hj]
/-- A unit. -/
def unitN (i : Nat) (t : Nat) : Int := if t = i then 1 else 0
theorem prRow_eq {e : Nat} {R : Nat → Nat → Int} {a b : Nat → Int} {t i k : Nat} (hi : i < e) (ht : t < e) : prRow e R a b t i k = a i * b ((i + k) % e) * R k ((t + e - i) % e) := by
  unfold prRow
  have h0 : (t + e - i) % e < e := Nat.mod_lt _ (by omega)
  rw [show sumN e (prTm e R a b t i k) = sumN e (fun m => if m = (t + e - i) % e then a i * b ((i + k) % e) * R k m else 0) from sumN_congr (fun m hm => ?_)]
  · rw [sumN_ite, if_pos h0]
  · unfold prTm
    have q1 := mod_two (show i + m < e + e by omega)
    have q2 := mod_two (show t + e - i < e + e by omega)
    by_cases hmt : (i + m) % e = t
    · rw [if_pos hmt, if_pos (by rw [q1] at hmt; rw [q2]; split at hmt <;> split <;> omega)]
    · rw [if_neg hmt, if_neg (fun h => hmt (by rw [q2] at h; rw [q1]; split at h <;> split <;> omega))]
theorem prT_unit {e : Nat} {R : Nat → Nat → Int} {b : Nat → Int} {t i : Nat} (hi : i < e) (ht : t < e) : prT e R (unitN i) b t = sumN e (fun k => b ((i + k) % e) * R k ((t + e - i) % e)) := by
  unfold prT
  rw [show sumN e (prBlk e R (unitN i) b t) = sumN e (fun i' => if i' = i then prBlk e R (unitN i) b t i' else 0) from sumN_congr (fun i' hi' => ?_)]
  · rw [sumN_ite, if_pos hi]
    unfold prBlk
    refine sumN_congr (fun k hk => ?_)
    rw [prRow_eq hi ht]; unfold unitN; rw [if_pos rfl, Int.one_mul]
  · by_cases h : i' = i
    · rw [if_pos h]
    · rw [if_neg h]
      unfold prBlk
      rw [show sumN e (prRow e R (unitN i) b t i') = sumN e (fun _ => 0) from sumN_congr (fun k hk => ?_)]
      · exact sumN_zero e
      · rw [prRow_eq hi' ht]; unfold unitN; rw [if_neg h, Int.zero_mul, Int.zero_mul]
theorem prT_unit0 {e : Nat} {R : Nat → Nat → Int} {a : Nat → Int} {t : Nat} (he : 1 ≤ e) (ht : t < e) : prT e R a (unitN 0) t = sumN e (fun i => a i * R ((e - i) % e) ((t + e - i) % e)) := by
  unfold prT
  refine sumN_congr (fun i hi => ?_)
  unfold prBlk
  have h0 : (e - i) % e < e := Nat.mod_lt _ (by omega)
  rw [show sumN e (prRow e R a (unitN 0) t i) = sumN e (fun k => if k = (e - i) % e then a i * R k ((t + e - i) % e) else 0) from sumN_congr (fun k hk => ?_)]
  · rw [sumN_ite, if_pos h0]
  · rw [prRow_eq hi ht]
    unfold unitN
    have q1 := mod_two (show i + k < e + e by omega)
    have q2 := mod_two (show e - i < e + e by omega)
    by_cases h : k = (e - i) % e
    · rw [if_pos h, if_pos (by rw [q2] at h; rw [q1]; split at h <;> split <;> omega), Int.mul_one]
    · rw [if_neg h, if_neg (fun h' => h (by rw [q1] at h'; rw [q2]; split at h' <;> split <;> omega)), Int.mul_zero, Int.zero_mul]
/-- A polynomial of L numbers times x less h(i). -/
def stepF (e : Nat) (R : Nat → Nat → Int) (i L : Nat) (F : Nat → Nat → Int) (a t : Nat) : Int := (if 1 ≤ a then F (a - 1) t else 0) - (if a < L then prT e R (unitN i) (F a) t else 0)
theorem polyF_step {p e i a t : Nat} (hi : i < e) (ha : a < i + 2) (ht : t < e) : polyF p e (i + 1) a t = stepF e (prodR p e) i (i + 1) (polyF p e i) a t := by
  unfold polyF stepF
  show g2 (stepT (prodT p e) e i (polyT (prodT p e) e i)) a t = _
  unfold stepT
  rw [show g2 ((List.range (i + 2)).map (fun a => (List.range e).map (fun t => (if 1 ≤ a then g2 (polyT (prodT p e) e i) (a - 1) t else 0) - (if a ≤ i then sumN e (fun k => g2 (polyT (prodT p e) e i) a ((i + k) % e) * g2 (prodT p e) k ((t + e - i) % e)) else 0)))) a t = (if 1 ≤ a then g2 (polyT (prodT p e) e i) (a - 1) t else 0) - (if a ≤ i then sumN e (fun k => g2 (polyT (prodT p e) e i) a ((i + k) % e) * g2 (prodT p e) k ((t + e - i) % e)) else 0) from by
    unfold g2
    rw [getD_map _ _ ha, getD_map _ _ ht]]
  congr 1
  by_cases h : a ≤ i
  · rw [if_pos h, if_pos (by omega), prT_unit hi ht]
    exact sumN_congr (fun k hk => by rw [g2_prod hk (Nat.mod_lt _ (by omega))])
  · rw [if_neg h, if_neg (by omega)]
theorem polyF_start {p e t : Nat} (ht : t < e) : polyF p e 0 0 t = -1 := by
  unfold polyF
  show ([List.replicate e (-1 : Int)].getD 0 []).getD t 0 = -1
  show (List.replicate e (-1 : Int)).getD t 0 = -1
  rw [List.getD_eq_getElem?_getD, List.getElem?_replicate, if_pos ht]; rfl
theorem powF_step {p e k t : Nat} (he : 1 ≤ e) (ht : t < e) : powF p e (k + 1) t = prT e (prodR p e) (powF p e k) (unitN 0) t := by
  unfold powF
  show (powStep (prodT p e) e (powT (prodT p e) e k)).getD t 0 = _
  unfold powStep
  rw [getD_map _ _ ht, prT_unit0 he ht]
  exact sumN_congr (fun i hi => by rw [g2_prod (Nat.mod_lt _ (by omega)) (Nat.mod_lt _ (by omega))])
theorem powF_start {p e t : Nat} (ht : t < e) : powF p e 0 t = unitN 0 t := by
  unfold powF unitN
  show ((List.range e).map (fun t => if t = 0 then (1 : Int) else 0)).getD t 0 = _
  rw [getD_map _ _ ht]
end Go.Proofs.Ytaipaggaodnfkaa
