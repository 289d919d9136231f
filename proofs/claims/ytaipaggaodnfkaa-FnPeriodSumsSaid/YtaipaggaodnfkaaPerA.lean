/- TraceOfPeriods, ShiftPeriods, RefinePeriods of the program and of the model. -/
import Derived.Test.YtaipaggaodnfkaaPerS
import Derived.Test.YtaipaggaodnfkaaRow
namespace Go.Proofs.Ytaipaggaodnfkaa
open Go.RowKit Go.ChangeShapes Go.Sort
set_option linter.unusedVariables false
set_option linter.unusedSimpArgs false

theorem Heads.one {o : Bool} {w : World} {lo hi n : Nat} {v : Value} {f : Nat → Int} (hs : Sl o w lo hi v n f) (t : TypeId) : Heads (w.alloc (.cells #[v] t)) w.heap.size 1 (fun _ => v) (fun _ => n) (fun _ => f) := fun i hi' => by
  obtain rfl : i = 0 := by omega
  exact ⟨(Box.made w #[v] t [v] (fun j u h => by simpa using h)).2.1 0 v rfl, o, lo, hi, hs.alloc _⟩
theorem Heads.two {o o' : Bool} {w : World} {lo hi lo' hi' n n' : Nat} {v v' : Value} {f f' : Nat → Int} (hs : Sl o w lo hi v n f) (hs' : Sl o' w lo' hi' v' n' f') (t : TypeId) : Heads (w.alloc (.cells #[v, v'] t)) w.heap.size 2 (fun i => if i = 0 then v else v') (fun i => if i = 0 then n else n') (fun i => if i = 0 then f else f') := fun i hi' => by
  have hb := Box.made w #[v, v'] t [v, v'] (fun j u h => by simpa using h)
  by_cases h0 : i = 0
  · subst h0; exact ⟨hb.2.1 0 v rfl, o, lo, hi, hs.alloc _⟩
  · obtain rfl : i = 1 := by omega
    exact ⟨hb.2.1 1 v' rfl, o', lo', _, hs'.alloc _⟩

/-- A sum of periods of p, e. -/
def SumP (p e : Int) (n : Nat) (f : Nat → Int) : Prop := HcP p e ∧ (n : Int) = e ∧ Within f n 1000
theorem SumP.nat {p e : Int} {n : Nat} {f : Nat → Int} (h : SumP p e n f) : ∃ P : Nat, p = P ∧ e = n ∧ primeN P = true ∧ 1 ≤ n ∧ n ≤ 12 ∧ (P - 1) % n = 0 ∧ Within f n 1000 := by
  obtain ⟨hc, hn, hw⟩ := h
  obtain ⟨P, E, rfl, rfl, a, b, c, d⟩ := hc.nat
  obtain rfl : n = E := by omega
  exact ⟨P, rfl, rfl, a, b, c, d, hw⟩
theorem sum_one {p e : Int} {n : Nat} {f : Nat → Int} (h : ¬ SumP p e n f) : ¬ (HcP p e ∧ ∀ i, i < 1 → (((fun _ => n : Nat → Nat) i : Nat) : Int) = e ∧ Within ((fun _ => f : Nat → Nat → Int) i) ((fun _ => n : Nat → Nat) i) 1000) :=
  fun h' => h ⟨h'.1, (h'.2 0 (by omega)).1, (h'.2 0 (by omega)).2⟩

/-- The trace of the first k numbers. -/
def trN (f : Nat → Int) : Nat → Int
  | 0 => 0
  | k + 1 => trN f k - f k
theorem trN_bd {f : Nat → Int} {n : Nat} (h : Within f n 1000) : ∀ k, k ≤ n → -(1000 * (k : Int)) ≤ trN f k ∧ trN f k ≤ 1000 * (k : Int)
  | 0, _ => by simp [trN]
  | k + 1, hk => by
    have h1 := trN_bd h k (by omega)
    have h2 := h k (by omega)
    simp only [trN]; omega
theorem trN_inR {f : Nat → Int} {n : Nat} (h : Within f n 1000) (hn : n ≤ 12) {k : Nat} (hk : k ≤ n) : -12000 ≤ trN f k ∧ trN f k ≤ 12000 := by
  have := trN_bd h k hk; omega

section
variable {o : Bool} {lo hi : Nat} {v : Value} {n : Nat} {f : Nat → Int}
theorem TraceOfPeriods_impl_bad (p e : Int) (w : World) (hs : Sl o w lo hi v n f) (h : ¬ SumP p e n f) :
    Calls Try.prog 44 #[.int .i64 p, .int .i64 e, v] w fun r w' => r = .returned (.tuple #[.int .i64 0, .int .i64 2]) ∧ Below w.heap.size w w' := by
  have H := Lib.hid h
  have HS := Lib.hid hs
  clear h hs
  go_enter Try.func44, Try.ntmps44
  go_wp2_with (go_at_call 74; refine (isPeriodSum_no p e _ HS.out H.out).mono ?_; rintro r w1 ⟨rfl, b1⟩)
  refine bodyPost_ret (v := .tuple #[.int .i64 0, .int .i64 2]) (by simp [results, Try.results44, go_sem]) rfl ?_
  exact ⟨rfl, b1⟩
set_option maxHeartbeats 1000000 in
theorem TraceOfPeriods_impl_ok (p : Nat) (hp : primeN p = true) (h1 : 1 ≤ n) (h2 : n ≤ 12) (hd : (p - 1) % n = 0) (w : World) (hs : Sl o w lo hi v n f) (hw : Within f n 1000) :
    Calls Try.prog 44 #[.int .i64 (p : Int), .int .i64 (n : Int), v] w fun r w' => r = .returned (.tuple #[.int .i64 (trN f n), .int .i64 0]) ∧ Below w.heap.size w w' := by
  have HP := Lib.hid hp
  have HD := Lib.hid hd
  have HW := Lib.hid hw
  obtain ⟨a, cap, rfl⟩ := hs.shape
  have HS := Lib.hid hs
  clear hp hd hw hs
  go_enter Try.func44, Try.ntmps44
  go_wp2_with (go_at_call 74; refine (isPeriodSum_yes p n HP.out h1 h2 HD.out _ HS.out HW.out).mono ?_; rintro r w1 ⟨rfl, b1⟩)
  have HS1 := Lib.hid (HS.out.keep b1 HS.out.size)
  go_loopw [8, 18] (fun s8 s18 wr => ∃ k : Nat, k ≤ n ∧ s8 = .int .i64 (trN f k) ∧ s18 = .int .i64 (k : Int) ∧ wr = w1) (fun _ s18 _ => n - (intOf s18).toNat)
  case atStart => exact ⟨0, Nat.zero_le _, rfl, rfl, rfl⟩
  case round =>
    obtain ⟨k, hk, rfl, rfl, hwr⟩ := hrel
    subst hwr
    by_cases hlt : k < n
    · obtain ⟨g, off, cap', hv, _, _, _, _, hc, _⟩ := HS1.out.at (by omega)
      obtain ⟨rfl, rfl⟩ : a = some ⟨g, off, none⟩ ∧ cap = cap' := by cases hv; exact ⟨rfl, rfl⟩
      clear hv
      have hck := hc k hlt
      clear hc
      have ht := trN_inR HW.out h2 hk
      have hwk := HW.out k hlt
      go_wp2
      go_roundw
      case rel => exact ⟨k + 1, by omega, by simp only [trN], by go_num, by first | rfl | trivial⟩
      case measure => simp [intOf]; omega
    · obtain rfl : k = n := by omega
      go_wp2
      refine bodyPost_ret (v := .tuple #[.int .i64 (trN f k), .int .i64 0]) (by simp [results, Try.results44, go_sem]) rfl ?_
      exact ⟨rfl, b1⟩
theorem TraceOfPeriods_spec_bad (p e : Int) (w : World) (hs : Sl o w lo hi v n f) (h : ¬ SumP p e n f) :
    Calls Try.prog 45 #[.int .i64 p, .int .i64 e, v] w fun r w' => r = .returned (.tuple #[.int .i64 0, .int .i64 2]) ∧ Below w.heap.size w w' := by
  have H := Lib.hid (sum_one h)
  obtain ⟨a, cap, rfl⟩ := hs.shape
  have HS := Lib.hid hs
  clear h hs
  go_enter Try.func45, Try.ntmps45
  go_wp2_with (go_at_call 77; refine (l06Sum_no p e _ (by omega) (Heads.one HS.out _) H.out).mono ?_; rintro r w1 ⟨rfl, m1, rfl⟩)
  refine bodyPost_ret (v := .tuple #[.int .i64 0, .int .i64 2]) (by simp [results, Try.results45, go_sem]) rfl ?_
  exact ⟨rfl, below_drewN ((Below.refl w.heap.size w).alloc (Nat.le_refl _) _) _⟩
set_option maxHeartbeats 1000000 in
theorem TraceOfPeriods_spec_ok (p : Nat) (hp : primeN p = true) (h1 : 1 ≤ n) (h2 : n ≤ 12) (hd : (p - 1) % n = 0) (w : World) (hs : Sl o w lo hi v n f) (hw : Within f n 1000) :
    Calls Try.prog 45 #[.int .i64 (p : Int), .int .i64 (n : Int), v] w fun r w' => r = .returned (.tuple #[.int .i64 (trN f n), .int .i64 0]) ∧ Below w.heap.size w w' := by
  have HP := Lib.hid hp
  have HD := Lib.hid hd
  have HW := Lib.hid hw
  obtain ⟨a, cap, rfl⟩ := hs.shape
  have HS := Lib.hid hs
  clear hp hd hw hs
  go_enter Try.func45, Try.ntmps45
  go_wp2_with (go_at_call 77; refine (l06Sum_yes p n HP.out h1 h2 HD.out _ (by omega) (Heads.one HS.out _) (fun i _ => ⟨rfl, HW.out⟩)).mono ?_; rintro r w1 ⟨rfl, m1, rfl⟩)
  have HS1 := Lib.hid ((HS.out.alloc (.cells #[.slice a n cap] 33)).drewN m1)
  have BB := below_drewN ((Below.refl w.heap.size w).alloc (Nat.le_refl _) (.cells #[.slice a n cap] 33)) m1
  obtain ⟨W1, hW1⟩ : ∃ W1, ((w.alloc (.cells #[.slice a n cap] 33)).drewN m1) = W1 := ⟨_, rfl⟩
  rw [hW1] at HS1 BB ⊢
  clear hW1
  go_loopw [9, 10] (fun s9 s10 wr => ∃ k : Nat, k ≤ n ∧ s9 = .int .i64 (trN f k) ∧ s10 = .int .i64 (k : Int) ∧ wr = W1) (fun _ s10 _ => n - (intOf s10).toNat)
  case atStart => exact ⟨0, Nat.zero_le _, rfl, rfl, rfl⟩
  case round =>
    obtain ⟨k, hk, rfl, rfl, hwr⟩ := hrel
    subst hwr
    by_cases hlt : k < n
    · obtain ⟨g, off, cap', hv, _, _, _, _, hc, _⟩ := HS1.out.at (by omega)
      obtain ⟨rfl, rfl⟩ : a = some ⟨g, off, none⟩ ∧ cap = cap' := by cases hv; exact ⟨rfl, rfl⟩
      clear hv
      have hck := hc k hlt
      clear hc
      have ht := trN_inR HW.out h2 hk
      have hwk := HW.out k hlt
      go_wp2
      go_roundw
      case rel => exact ⟨k + 1, by omega, by simp only [trN], by go_num, by first | rfl | trivial⟩
      case measure => simp [intOf]; omega
    · obtain rfl : k = n := by omega
      go_wp2
      refine bodyPost_ret (v := .tuple #[.int .i64 (trN f k), .int .i64 0]) (by simp [results, Try.results45, go_sem]) rfl ?_
      exact ⟨rfl, BB⟩

theorem mod_two {x e : Nat} (h : x < e + e) : x % e = if x < e then x else x - e := by
  split
  · exact Nat.mod_eq_of_lt (by assumption)
  · rw [Nat.mod_eq_sub_mod (by omega), Nat.mod_eq_of_lt (by omega)]
/-- The shifted sum's number at t. -/
def shN (e k : Nat) (f : Nat → Int) (t : Nat) : Int := f ((t + (e - k)) % e)
/-- .. when i numbers have come. -/
def shP (e k : Nat) (f : Nat → Int) (i t : Nat) : Int := if (t + (e - k)) % e < i then f ((t + (e - k)) % e) else 0
theorem shP_start (e k : Nat) (f : Nat → Int) (t : Nat) : shP e k f 0 t = 0 := by unfold shP; rw [if_neg (by omega)]
theorem shP_step {e k i t : Nat} (f : Nat → Int) (hk : k < e) (hi : i < e) (ht : t < e) : shP e k f (i + 1) t = if t = (i + k) % e then f i else shP e k f i t := by
  have h1 := mod_two (show t + (e - k) < e + e by omega)
  have h2 := mod_two (show i + k < e + e by omega)
  unfold shP
  by_cases e1 : t = (i + k) % e
  · have : (t + (e - k)) % e = i := by
      rw [h1]; rw [h2] at e1; split at e1 <;> split <;> omega
    rw [if_pos e1, this, if_pos (by omega)]
  · have : (t + (e - k)) % e ≠ i := by
      intro h; apply e1
      rw [h2]; rw [h1] at h; split at h <;> split <;> omega
    rw [if_neg e1]
    by_cases h3 : (t + (e - k)) % e < i
    · rw [if_pos h3, if_pos (by omega)]
    · rw [if_neg h3, if_neg (by omega)]
theorem shP_all {e k t : Nat} (f : Nat → Int) (ht : t < e) : shN e k f t = shP e k f e t := by
  unfold shN shP; rw [if_pos (Nat.mod_lt _ (by omega))]
theorem shP_inR {e k : Nat} {f : Nat → Int} (hf : Within f e 1000) (he : 1 ≤ e) (i t : Nat) : -1000 ≤ shP e k f i t ∧ shP e k f i t ≤ 1000 := by
  unfold shP; split
  · exact hf _ (Nat.mod_lt _ he)
  · omega
theorem ShiftPeriods_impl_bad (p e k : Int) (w : World) (hs : Sl o w lo hi v n f) (h : ¬ (SumP p e n f ∧ 0 ≤ k ∧ k < e)) :
    Calls Try.prog 41 #[.int .i64 p, .int .i64 e, v, .int .i64 k] w fun r w' => ∃ a' k', r = .returned (.tuple #[.slice a' 0 k', .int .i64 2]) ∧ Sl true w' w.heap.size w'.heap.size (.slice a' 0 k') 0 (fun _ => 0) ∧ Below w.heap.size w w' := by
  obtain ⟨a, cap, rfl⟩ := hs.shape
  have HS := Lib.hid hs
  clear hs
  by_cases hp : SumP p e n f
  · have HK := Lib.hid (show k < 0 ∨ e ≤ k by
      rcases Int.lt_or_le k 0 with h' | h'
      · exact .inl h'
      · rcases Int.lt_or_le k e with h2 | h2
        · exact absurd ⟨hp, h', h2⟩ h
        · exact .inr h2)
    obtain ⟨P, rfl, rfl, h1, h2, h3, h4, h5⟩ := hp.nat
    have HP := Lib.hid h1
    have HD := Lib.hid h4
    have HW := Lib.hid h5
    clear hp h h1 h4 h5
    go_enter Try.func41, Try.ntmps41
    go_wp2_with (first
      | (go_at_call 74; refine (isPeriodSum_yes P n HP.out h2 h3 HD.out _ HS.out HW.out).mono ?_; rintro r w1 ⟨rfl, b1⟩)
      | (go_at_call 69; refine (isClass_no _ _ _ HK.out).mono ?_; rintro r w2 ⟨rfl, rfl⟩))
    go_ret2
    exact ⟨none, 0, rfl, Sl.nil _ _ _ (Nat.le_refl _) _, b1⟩
  · have H := Lib.hid hp
    clear hp h
    go_enter Try.func41, Try.ntmps41
    go_wp2_with (go_at_call 74; refine (isPeriodSum_no p e _ HS.out H.out).mono ?_; rintro r w1 ⟨rfl, b1⟩)
    go_ret2
    exact ⟨none, 0, rfl, Sl.nil _ _ _ (Nat.le_refl _) _, b1⟩

set_option maxRecDepth 100000 in
set_option maxHeartbeats 1000000 in
theorem ShiftPeriods_impl_ok (p K : Nat) (hp : primeN p = true) (h1 : 1 ≤ n) (h2 : n ≤ 12) (hd : (p - 1) % n = 0) (hK : K < n) (w : World) (hs : Sl o w lo hi v n f) (hw : Within f n 1000) :
    Calls Try.prog 41 #[.int .i64 (p : Int), .int .i64 (n : Int), v, .int .i64 (K : Int)] w fun r w' => ∃ a' k', r = .returned (.tuple #[.slice a' n k', .int .i64 0]) ∧ Sl true w' w.heap.size w'.heap.size (.slice a' n k') n (shN n K f) ∧ Below w.heap.size w w' := by
  have HP := Lib.hid hp
  have HD := Lib.hid hd
  have HW := Lib.hid hw
  obtain ⟨a, cap, rfl⟩ := hs.shape
  have HS := Lib.hid hs
  clear hp hd hw hs
  have hmk := run_make_row' (P := Try.prog) 33 2 (.int .i64 0) 8 Try.underlying33 Try.info2 rfl .i64 .i64 n (by omega) (by omega)
  go_enter Try.func41, Try.ntmps41
  go_wp2_with (first
    | (go_at_call 74; refine (isPeriodSum_yes p n HP.out h1 h2 HD.out _ HS.out HW.out).mono ?_; rintro r w1 ⟨rfl, b1⟩)
    | (go_at_call 69; refine (isClass_yes _ _ _ (by omega) (by omega)).mono ?_; rintro r w2 ⟨rfl, rfl⟩))
  have st1 := ((St.start w).addSl ⟨o, lo, hi, .slice a n cap, n, f⟩ HS.out).keep b1
  have q0 := Sl.made w1 (madeCells #[.int .i64 0] n) 2 n n (fun _ => 0) (Nat.le_refl _) (by unfold maxLen; omega) (fun j hj => by simp [inR]) (fun j hj => by simp [madeCells_at _ _ _ hj])
  have hz1 := b1.size
  have Q0 := Lib.hid (q0.congr (f' := shP n K f 0) (fun j hj => by rw [shP_start]))
  have ST := Lib.hid (st1.alloc (.cells (madeCells #[.int .i64 0] n) 2))
  have hhs := HS.out.size
  clear st1 q0 hmk b1
  go_loopw [28] (fun s28 wr => ∃ i : Nat, i ≤ n ∧ s28 = .int .i64 (i : Int) ∧ Sl true wr w1.heap.size (w1.heap.size + 1) (.slice (some ⟨w1.heap.size, 0, none⟩) n n) n (shP n K f i) ∧ St w wr [] [⟨o, lo, hi, .slice a n cap, n, f⟩]) (fun s28 _ => n - (intOf s28).toNat)
  case atStart => exact ⟨0, Nat.zero_le _, rfl, Q0.out, ST.out⟩
  case round =>
    clear Q0 ST
    obtain ⟨i, hi', rfl, hq, hst⟩ := hrel
    have HQ := Lib.hid hq
    have HT := Lib.hid hst
    clear hq hst
    by_cases hlt : i < n
    · obtain ⟨g, off, cap', hv, _, hg, _, _, hc, _⟩ := (HT.out.sl 0 ⟨o, lo, hi, .slice a n cap, n, f⟩ rfl).at (by show 0 < n; omega)
      dsimp only at hv hc hg
      obtain ⟨rfl, rfl⟩ : a = some ⟨g, off, none⟩ ∧ cap = cap' := by cases hv; exact ⟨rfl, rfl⟩
      clear hv
      have hck := hc i hlt
      clear hc
      obtain ⟨t, ht⟩ : ∃ t, (i + K) % n = t := ⟨_, rfl⟩
      have htn : t < n := by rw [← ht]; exact Nat.mod_lt _ (by omega)
      have hidx : ((i : Int) + (K : Int)) % (n : Int) = (t : Int) := by rw [← Int.natCast_add, ← Int.natCast_emod, ht]
      have hct := (HQ.out.known (by omega)).2.2.2.1 t htn
      rw [Nat.zero_add] at hct
      have hft := (HQ.out.known (by omega)).2.2.2.2 rfl t
      have HSTP := Lib.hid (fun y (hy : y < n) => (shP_step f hK hlt hy).trans (by rw [ht]))
      have hn0 : ¬ n = 0 := by omega
      have hwi := HW.out i hlt
      clear ht
      go_wp2
      go_roundw
      case rel => exact ⟨i + 1, by omega, by go_num, (HQ.out.store0 htn (x := f i) (by unfold inR; omega)).congr (fun y hy => HSTP.out y hy), HT.out.write (lo := w1.heap.size) (hi := w1.heap.size + 1) ((Frame.refl _ _ _).setCell (p := ⟨w1.heap.size, t, none⟩) (Nat.le_refl _) (Nat.lt_succ_self _) _) (by omega) (by intro b hb; cases hb) (by intro s hs'; simp only [List.mem_cons, List.not_mem_nil, or_false] at hs'; rcases hs' with rfl; left; show hi ≤ _; omega)⟩
      case measure => simp [intOf]; omega
    · obtain rfl : i = n := by omega
      have BB := HT.out.1
      have hqs := HQ.out.size
      go_wp2
      go_ret2
      exact ⟨_, _, rfl, (HQ.out.congr (fun y hy => shP_all f hy)).wide (by omega) hqs (Nat.le_refl _), BB⟩

theorem ShiftPeriods_spec_bad (p e k : Int) (w : World) (hs : Sl o w lo hi v n f) (h : ¬ (SumP p e n f ∧ 0 ≤ k ∧ k < e)) :
    Calls Try.prog 42 #[.int .i64 p, .int .i64 e, v, .int .i64 k] w fun r w' => ∃ a' k', r = .returned (.tuple #[.slice a' 0 k', .int .i64 2]) ∧ Sl true w' w.heap.size w'.heap.size (.slice a' 0 k') 0 (fun _ => 0) ∧ Below w.heap.size w w' := by
  obtain ⟨a, cap, rfl⟩ := hs.shape
  have HS := Lib.hid hs
  clear hs
  by_cases hp : SumP p e n f
  · have HK := Lib.hid (show k < 0 ∨ e - 1 < k by
      rcases Int.lt_or_le k 0 with h' | h'
      · exact .inl h'
      · rcases Int.lt_or_le k e with h2 | h2
        · exact absurd ⟨hp, h', h2⟩ h
        · exact .inr (by omega))
    obtain ⟨P, rfl, rfl, h1, h2, h3, h4, h5⟩ := hp.nat
    have HP := Lib.hid h1
    have HD := Lib.hid h4
    have HW := Lib.hid h5
    clear hp h h1 h4 h5
    go_enter Try.func42, Try.ntmps42
    go_wp2_with (first
      | (go_at_call 77; refine (l06Sum_yes P n HP.out h2 h3 HD.out _ (by omega) (Heads.one HS.out _) (fun i _ => ⟨rfl, HW.out⟩)).mono ?_; rintro r w1 ⟨rfl, m1, rfl⟩)
      | (go_at_call 67; refine (l01In_no _ _ _ _ HK.out).mono ?_; rintro r w2 ⟨rfl, rfl⟩))
    go_ret2
    exact ⟨none, 0, rfl, Sl.nil _ _ _ (Nat.le_refl _) _, below_drewN ((Below.refl w.heap.size w).alloc (Nat.le_refl _) _) _⟩
  · have H := Lib.hid (sum_one hp)
    clear hp h
    go_enter Try.func42, Try.ntmps42
    go_wp2_with (go_at_call 77; refine (l06Sum_no p e _ (by omega) (Heads.one HS.out _) H.out).mono ?_; rintro r w1 ⟨rfl, m1, rfl⟩)
    go_ret2
    exact ⟨none, 0, rfl, Sl.nil _ _ _ (Nat.le_refl _) _, below_drewN ((Below.refl w.heap.size w).alloc (Nat.le_refl _) _) _⟩

set_option maxRecDepth 100000 in
set_option maxHeartbeats 2000000 in
theorem ShiftPeriods_spec_ok (p K : Nat) (hp : primeN p = true) (h1 : 1 ≤ n) (h2 : n ≤ 12) (hd : (p - 1) % n = 0) (hK : K < n) (w : World) (hs : Sl o w lo hi v n f) (hw : Within f n 1000) :
    Calls Try.prog 42 #[.int .i64 (p : Int), .int .i64 (n : Int), v, .int .i64 (K : Int)] w fun r w' => ∃ a' k', r = .returned (.tuple #[.slice a' n k', .int .i64 0]) ∧ Sl true w' w.heap.size w'.heap.size (.slice a' n k') n (shN n K f) ∧ Below w.heap.size w w' := by
  have HP := Lib.hid hp
  have HD := Lib.hid hd
  have HW := Lib.hid hw
  obtain ⟨a, cap, rfl⟩ := hs.shape
  have HS := Lib.hid hs
  clear hp hd hw hs
  have hmk := run_make_row' (P := Try.prog) 33 2 (.int .i64 0) 8 Try.underlying33 Try.info2 rfl .i64 .i64 n (by omega) (by omega)
  go_enter Try.func42, Try.ntmps42
  go_wp2_with (first
    | (go_at_call 77; refine (l06Sum_yes p n HP.out h1 h2 HD.out _ (by omega) (Heads.one HS.out _) (fun i _ => ⟨rfl, HW.out⟩)).mono ?_; rintro r w1 ⟨rfl, m1, rfl⟩)
    | (go_at_call 67; refine (l01In_yes _ _ _ _ (by omega) (by omega)).mono ?_; rintro r w2 ⟨rfl, rfl⟩))
  have st1 := (((St.start w).addSl ⟨o, lo, hi, .slice a n cap, n, f⟩ HS.out).alloc (.cells #[.slice a n cap] 33)).drewN m1
  have q0 := Sl.made ((w.alloc (.cells #[.slice a n cap] 33)).drewN m1) (madeCells #[.int .i64 0] n) 2 n n (fun _ => 0) (Nat.le_refl _) (by unfold maxLen; omega) (fun j hj => by simp [inR]) (fun j hj => by simp [madeCells_at _ _ _ hj])
  rw [show ((w.alloc (.cells #[.slice a n cap] 33)).drewN m1).heap.size = w.heap.size + 1 by simp] at q0
  have Q0 := Lib.hid (q0.congr (f' := shP n K f 0) (fun j hj => by rw [shP_start]))
  have ST := Lib.hid (st1.alloc (.cells (madeCells #[.int .i64 0] n) 2))
  have hhs := HS.out.size
  clear st1 q0 hmk
  go_loopw [12] (fun s12 wr => ∃ i : Nat, i ≤ n ∧ s12 = .int .i64 (i : Int) ∧ Sl true wr (w.heap.size + 1) ((w.heap.size + 1) + 1) (.slice (some ⟨(w.heap.size + 1), 0, none⟩) n n) n (shP n K f i) ∧ St w wr [] [⟨o, lo, hi, .slice a n cap, n, f⟩]) (fun s12 _ => n - (intOf s12).toNat)
  case atStart => exact ⟨0, Nat.zero_le _, rfl, Q0.out, ST.out⟩
  case round =>
    clear Q0 ST
    obtain ⟨i, hi', rfl, hq, hst⟩ := hrel
    have HQ := Lib.hid hq
    have HT := Lib.hid hst
    clear hq hst
    by_cases hlt : i < n
    · obtain ⟨g, off, cap', hv, _, hg, _, _, hc, _⟩ := (HT.out.sl 0 ⟨o, lo, hi, .slice a n cap, n, f⟩ rfl).at (by show 0 < n; omega)
      dsimp only at hv hc hg
      obtain ⟨rfl, rfl⟩ : a = some ⟨g, off, none⟩ ∧ cap = cap' := by cases hv; exact ⟨rfl, rfl⟩
      clear hv
      have hck := hc i hlt
      clear hc
      obtain ⟨t, ht⟩ : ∃ t, (i + K) % n = t := ⟨_, rfl⟩
      have htn : t < n := by rw [← ht]; exact Nat.mod_lt _ (by omega)
      have hidx : ((i : Int) + (K : Int)) % (n : Int) = (t : Int) := by rw [← Int.natCast_add, ← Int.natCast_emod, ht]
      have hct := (HQ.out.known (by omega)).2.2.2.1 t htn
      rw [Nat.zero_add] at hct
      have hft := (HQ.out.known (by omega)).2.2.2.2 rfl t
      have HSTP := Lib.hid (fun y (hy : y < n) => (shP_step f hK hlt hy).trans (by rw [ht]))
      have hn0 : ¬ n = 0 := by omega
      have hwi := HW.out i hlt
      clear ht
      go_wp2
      go_region
      all_goals
        go_wp2
        go_roundw
        case rel => exact ⟨i + 1, by omega, by go_num, ((HQ.out.store0 htn (x := f i) (by unfold inR; omega)).congr (fun y hy => HSTP.out y hy)).drew, (HT.out.write (lo := (w.heap.size + 1)) (hi := (w.heap.size + 1) + 1) ((Frame.refl _ _ _).setCell (p := ⟨(w.heap.size + 1), t, none⟩) (Nat.le_refl _) (Nat.lt_succ_self _) _) (by omega) (by intro b hb; cases hb) (by intro s hs'; simp only [List.mem_cons, List.not_mem_nil, or_false] at hs'; rcases hs' with rfl; left; show hi ≤ _; omega)).drew⟩
        case measure => simp [intOf]; omega
    · obtain rfl : i = n := by omega
      have BB := HT.out.1
      have hqs := HQ.out.size
      go_wp2
      go_ret2
      exact ⟨_, _, rfl, (HQ.out.congr (fun y hy => shP_all f hy)).wide (by omega) hqs (Nat.le_refl _), BB⟩
end
end Go.Proofs.Ytaipaggaodnfkaa
