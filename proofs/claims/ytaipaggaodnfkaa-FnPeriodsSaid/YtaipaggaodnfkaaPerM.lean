/- IsDifferenceClass of the program and of the model. -/
import Derived.Test.YtaipaggaodnfkaaPerL
namespace Go.Proofs.Ytaipaggaodnfkaa
open Go.RowKit Go.ChangeShapes Go.Sort
set_option linter.unusedVariables false
set_option linter.unusedSimpArgs false

/-- The least of f 0, .., f (n - 1). -/
def mnN (f : Nat → Int) : Nat → Int
  | 0 => f 0
  | k + 1 => if f k < mnN f k then f k else mnN f k
/-- The greatest. -/
def mxN (f : Nat → Int) : Nat → Int
  | 0 => f 0
  | k + 1 => if mxN f k < f k then f k else mxN f k
theorem mn_le {f : Nat → Int} : ∀ {n i : Nat}, i < n → mnN f n ≤ f i
  | 0, _, h => absurd h (Nat.not_lt_zero _)
  | n + 1, i, h => by
    simp only [mnN]
    by_cases e : i < n
    · have := mn_le (f := f) e; split <;> omega
    · obtain rfl : i = n := by omega
      split <;> omega
theorem mx_ge {f : Nat → Int} : ∀ {n i : Nat}, i < n → f i ≤ mxN f n
  | 0, _, h => absurd h (Nat.not_lt_zero _)
  | n + 1, i, h => by
    simp only [mxN]
    by_cases e : i < n
    · have := mx_ge (f := f) e; split <;> omega
    · obtain rfl : i = n := by omega
      split <;> omega
theorem mn_eq {f : Nat → Int} {c : Int} (h0 : f 0 = c) : ∀ {n : Nat}, (∀ i, i < n → f i = c) → mnN f n = c
  | 0, _ => h0
  | n + 1, h => by
    have h1 := mn_eq h0 (fun i hi => h i (Nat.lt_succ_of_lt hi))
    have h2 := h n (Nat.lt_succ_self n)
    simp only [mnN]; split <;> omega
theorem mx_eq {f : Nat → Int} {c : Int} (h0 : f 0 = c) : ∀ {n : Nat}, (∀ i, i < n → f i = c) → mxN f n = c
  | 0, _ => h0
  | n + 1, h => by
    have h1 := mx_eq h0 (fun i hi => h i (Nat.lt_succ_of_lt hi))
    have h2 := h n (Nat.lt_succ_self n)
    simp only [mxN]; split <;> omega
/-- All n numbers are equal. -/
def allEq (f : Nat → Int) (n : Nat) : Bool := (List.range n).all (fun i => decide (f i = f 0))
theorem allEq_yes {f : Nat → Int} {n : Nat} : allEq f n = true ↔ ∀ i, i < n → f i = f 0 := by
  unfold allEq
  rw [List.all_eq_true]
  constructor
  · intro h i hi; simpa using h i (List.mem_range.2 hi)
  · intro h i hi; simpa using h i (List.mem_range.1 hi)
theorem mn_mx {f : Nat → Int} {n : Nat} (h1 : 1 ≤ n) : (mnN f n == mxN f n) = allEq f n := by
  by_cases h : allEq f n = true
  · have h' := allEq_yes.1 h
    rw [h, mn_eq rfl h', mx_eq rfl h']
    simp
  · have h2 : allEq f n = false := by simpa using h
    rw [h2]
    refine beq_eq_false_iff_ne.2 (fun e => h (allEq_yes.2 (fun i hi => ?_)))
    have a1 := mn_le (f := f) hi
    have a2 := mx_ge (f := f) hi
    have b1 := mn_le (f := f) (show 0 < n by omega)
    have b2 := mx_ge (f := f) (show 0 < n by omega)
    omega

section
variable {o : Bool} {lo hi : Nat} {v : Value} {n : Nat} {f : Nat → Int}
set_option maxRecDepth 100000 in
set_option maxHeartbeats 1000000 in
theorem Min_any (w : World) (h1 : 1 ≤ n) (hn : n ≤ 1000) (hs : Sl o w lo hi v n f) :
    Calls Try.prog 71 #[v] w fun r w' => r = .returned (.int .i64 (mnN f n)) ∧ w = w' := by
  obtain ⟨g, off, cap, rfl, _⟩ := hs.at h1
  have HS := Lib.hid hs
  have hc0 := (hs.known (by omega)).2.2.2.1 0 (by omega)
  rw [Nat.add_zero] at hc0
  clear hs
  go_enter Try.func71, Try.ntmps71
  go_wp2
  clear hc0
  go_loopw [3, 4] (fun s3 s4 wr => ∃ k : Nat, 1 ≤ k ∧ k ≤ n ∧ s3 = .int .i64 (mnN f k) ∧ s4 = .int .i64 (k : Int) ∧ wr = w) (fun _ s4 _ => n - (intOf s4).toNat)
  case atStart => exact ⟨1, by omega, h1, by simp [mnN], rfl, rfl⟩
  case round =>
    obtain ⟨k, hk1, hk, rfl, rfl, hwr⟩ := hrel
    subst hwr
    by_cases hlt : k < n
    · have hck := (HS.out.known (by omega)).2.2.2.1 k hlt
      have HN := Lib.hid (show mnN f (k + 1) = if f k < mnN f k then f k else mnN f k from rfl)
      generalize mnN f k = M at *
      by_cases hlt2 : f k < M
      · rw [if_pos hlt2] at HN
        go_wp2
        go_roundw
        case rel => exact ⟨k + 1, by omega, by omega, by rw [HN.out], by go_num, by first | rfl | trivial⟩
        case measure => simp [intOf]; omega
      · rw [if_neg hlt2] at HN
        go_wp2
        go_roundw
        case rel => exact ⟨k + 1, by omega, by omega, by rw [HN.out], by go_num, by first | rfl | trivial⟩
        case measure => simp [intOf]; omega
    · obtain rfl : k = n := by omega
      go_wp2
      go_ret
      exact ⟨rfl, rfl⟩
set_option maxRecDepth 100000 in
set_option maxHeartbeats 1000000 in
theorem Max_any (w : World) (h1 : 1 ≤ n) (hn : n ≤ 1000) (hs : Sl o w lo hi v n f) :
    Calls Try.prog 72 #[v] w fun r w' => r = .returned (.int .i64 (mxN f n)) ∧ w = w' := by
  obtain ⟨g, off, cap, rfl, _⟩ := hs.at h1
  have HS := Lib.hid hs
  have hc0 := (hs.known (by omega)).2.2.2.1 0 (by omega)
  rw [Nat.add_zero] at hc0
  clear hs
  go_enter Try.func72, Try.ntmps72
  go_wp2
  clear hc0
  go_loopw [3, 4] (fun s3 s4 wr => ∃ k : Nat, 1 ≤ k ∧ k ≤ n ∧ s3 = .int .i64 (mxN f k) ∧ s4 = .int .i64 (k : Int) ∧ wr = w) (fun _ s4 _ => n - (intOf s4).toNat)
  case atStart => exact ⟨1, by omega, h1, by simp [mxN], rfl, rfl⟩
  case round =>
    obtain ⟨k, hk1, hk, rfl, rfl, hwr⟩ := hrel
    subst hwr
    by_cases hlt : k < n
    · have hck := (HS.out.known (by omega)).2.2.2.1 k hlt
      have HN := Lib.hid (show mxN f (k + 1) = if mxN f k < f k then f k else mxN f k from rfl)
      generalize mxN f k = M at *
      by_cases hlt2 : M < f k
      · rw [if_pos hlt2] at HN
        go_wp2
        go_roundw
        case rel => exact ⟨k + 1, by omega, by omega, by rw [HN.out], by go_num, by first | rfl | trivial⟩
        case measure => simp [intOf]; omega
      · rw [if_neg hlt2] at HN
        go_wp2
        go_roundw
        case rel => exact ⟨k + 1, by omega, by omega, by rw [HN.out], by go_num, by first | rfl | trivial⟩
        case measure => simp [intOf]; omega
    · obtain rfl : k = n := by omega
      go_wp2
      go_ret
      exact ⟨rfl, rfl⟩
end

theorem IsDifferenceClass_impl_bad (p e : Int) (h : ¬ HcP p e) (w : World) :
    Calls Try.prog 33 #[.int .i64 p, .int .i64 e] w fun r w' => r = .returned (.tuple #[.bool false, .int .i64 2]) ∧ Below w.heap.size w w' := by
  have H := Lib.hid h
  clear h
  go_enter Try.func33, Try.ntmps33
  go_wp2_with fail
  refine (DifferenceNumbers_impl_bad p e H.out _).mono ?_
  rintro r w1 ⟨a, k, rfl, s1, b1⟩
  go_wp2
  refine bodyPost_ret (v := .tuple #[.bool false, .int .i64 2]) (by simp [results, Try.results33, go_sem]) rfl ?_
  exact ⟨rfl, b1⟩
theorem IsDifferenceClass_impl_ok (p e : Nat) (hp : primeN p = true) (h1 : 1 ≤ e) (h2 : e ≤ 12) (hd : (p - 1) % e = 0) (w : World) :
    Calls Try.prog 33 #[.int .i64 (p : Int), .int .i64 (e : Int)] w fun r w' => r = .returned (.tuple #[.bool (allEq (difN p e) e), .int .i64 0]) ∧ Below w.heap.size w w' := by
  have HD := Lib.hid (fun w => DifferenceNumbers_impl_ok p e hp h1 h2 hd w)
  clear hp hd
  go_enter Try.func33, Try.ntmps33
  go_wp2_with fail
  refine (HD.out _).mono ?_
  rintro r w1 ⟨a, k, rfl, s1, b1⟩
  have hmm := mn_mx (f := difN p e) h1
  go_wp2_with (first
    | (go_at_call 71; refine (Min_any _ h1 (by omega) s1).mono ?_; rintro r w2 ⟨rfl, rfl⟩)
    | (go_at_call 72; refine (Max_any _ h1 (by omega) s1).mono ?_; rintro r w2 ⟨rfl, rfl⟩))
  refine bodyPost_ret (v := .tuple #[.bool (allEq (difN p e) e), .int .i64 0]) (by simp [results, Try.results33, go_sem, hmm]) rfl ?_
  exact ⟨rfl, b1⟩
theorem IsDifferenceClass_spec_bad (p e : Int) (h : ¬ HcP p e) (w : World) :
    Calls Try.prog 34 #[.int .i64 p, .int .i64 e] w fun r w' => r = .returned (.tuple #[.bool false, .int .i64 2]) ∧ Below w.heap.size w w' := by
  have H := Lib.hid (hc_nil h)
  clear h
  go_enter Try.func34, Try.ntmps34
  go_wp2_with (go_at_call 63; refine (l06Code_no p e _ (o := false) (Sl.nil _ 0 0 (Nat.zero_le _) (fun _ => 0)) H.out).mono ?_; rintro r w1 ⟨rfl, m1, rfl⟩)
  refine bodyPost_ret (v := .tuple #[.bool false, .int .i64 2]) (by simp [results, Try.results34, go_sem]) rfl ?_
  exact ⟨rfl, below_drewN (Below.refl w.heap.size w) _⟩
set_option maxRecDepth 100000 in
set_option maxHeartbeats 1000000 in
theorem IsDifferenceClass_spec_ok (p e : Nat) (hp : primeN p = true) (h1 : 1 ≤ e) (h2 : e ≤ 12) (hd : (p - 1) % e = 0) (w : World) :
    Calls Try.prog 34 #[.int .i64 (p : Int), .int .i64 (e : Int)] w fun r w' => r = .returned (.tuple #[.bool (allEq (difN p e) e), .int .i64 0]) ∧ Below w.heap.size w w' := by
  have HP := Lib.hid hp
  have HD := Lib.hid hd
  clear hp hd
  go_enter Try.func34, Try.ntmps34
  go_wp2_with (first
    | (go_at_call 63; refine (l06Code_yes p e HP.out h1 h2 HD.out _ (o := false) (Sl.nil _ 0 0 (Nat.zero_le _) (fun _ => 0)) (fun j hj => absurd hj (Nat.not_lt_zero _))).mono ?_; rintro r w1 ⟨rfl, m1, rfl⟩)
    | (go_at_call 70; refine (l06Differences_any p e HP.out h1 h2 HD.out _).mono ?_; rintro r w2 ⟨G, rfl, s2, b2⟩))
  have BB := Lib.hid ((below_drewN (Below.refl w.heap.size w) m1).trans (b2.mono (by simp)))
  have S2 := Lib.hid s2
  clear s2 b2
  generalize hgf : difN p e = f at *
  have HGF := Lib.hid hgf
  clear hgf
  go_loopw [8] (fun s8 wr => ∃ k : Nat, k ≤ e ∧ s8 = .int .i64 (k : Int) ∧ (∀ i, i < k → f i = f 0) ∧ Sl true wr (((w.drewN m1)).heap.size) w2.heap.size (.slice (some ⟨G, 0, none⟩) e e) e f ∧ Below w.heap.size w wr) (fun s8 _ => e - (intOf s8).toNat)
  case atStart => exact ⟨0, Nat.zero_le _, rfl, fun i hi => absurd hi (Nat.not_lt_zero _), S2.out, BB.out⟩
  case round =>
    clear S2 BB
    obtain ⟨k, hk, rfl, hall, hs, hbl⟩ := hrel
    have S2 := Lib.hid hs
    have BB := Lib.hid hbl
    clear hs hbl
    have HA := Lib.hid hall
    clear hall
    by_cases hlt : k < e
    · have hck := (S2.out.known (by omega)).2.2.2.1 k hlt
      have hc0 := (S2.out.known (by omega)).2.2.2.1 0 (by omega)
      rw [Nat.zero_add] at hck
      rw [Nat.add_zero] at hc0
      by_cases hkk : f k = f 0
      · have hb : (f k != f 0) = false := by rw [hkk]; simp
        have HK := Lib.hid hkk
        clear hkk
        go_wp2
        go_region
        go_wp2
        go_roundw
        case rel => exact ⟨k + 1, by omega, by go_num, fun i hi => by
          by_cases e1 : i = k
          · rw [e1]; exact HK.out
          · exact HA.out i (by omega), S2.out.drew, BB.out.drew⟩
        case measure => simp [intOf]; omega
      · have hb : (f k != f 0) = true := by rw [bne_iff_ne]; exact hkk
        have HF := Lib.hid (show allEq f e = false by
          cases h : allEq f e
          · rfl
          · exact absurd (allEq_yes.1 h k hlt) hkk)
        clear hkk
        go_wp2
        go_region
        go_wp2
        refine bodyPost_ret (v := .tuple #[.bool false, .int .i64 0]) (by simp [results, Try.results34, go_sem]) rfl ?_
        exact ⟨by rw [HGF.out, HF.out], BB.out.drew⟩
    · obtain rfl : k = e := by omega
      have HF := Lib.hid (allEq_yes.2 HA.out)
      go_wp2
      refine bodyPost_ret (v := .tuple #[.bool true, .int .i64 0]) (by simp [results, Try.results34, go_sem]) rfl ?_
      exact ⟨by rw [HGF.out, HF.out], BB.out⟩
end Go.Proofs.Ytaipaggaodnfkaa
