/- Chapter 8 of the model: codes, values, counts of solutions. -/
import Derived.Test.YtacffobbbcfbcaaDoorEqF
import Derived.Test.YtacffobbbcfbcaaDoorPlcA
import Derived.Deep.RegionLaw
import Derived.BigRegion
namespace Go.Proofs.YtacffobbbcfbcaaDoor
open Go.RowKit Go.ChangeShapes Go.Sort
set_option linter.unusedVariables false
set_option linter.unusedSimpArgs false
set_option maxRecDepth 100000

theorem l06Prime_yes (p : Nat) (hp : primeN p = true) (w : World) :
    Calls Tryd.prog 106 #[.int .i64 (p : Int)] w fun e w' => e = .returned (.bool true) ∧ ∃ m, w' = w.drewN m := by
  have hb := primeN_bd hp
  have HP := Lib.hid hp; clear hp
  go_enter Tryd.func106, Tryd.ntmps106
  go_wp2_with (go_at_call 74; refine (l01In_yes _ _ _ _ (by omega) (by omega)).mono ?_; rintro e w' ⟨rfl, rfl⟩)
  go_loopw [3] (fun s3 wr => ∃ k : Nat, 2 ≤ k ∧ k ≤ 8 ∧ s3 = .int .i64 (k : Int) ∧ ∃ m, wr = w.drewN m) (fun s3 _ => 9 - (intOf s3).toNat)
  case atStart => exact ⟨2, by omega, by omega, rfl, 0, rfl⟩
  case round =>
    obtain ⟨k, hk2, hk8, rfl, m, rfl⟩ := hrel
    have hkk0 : 0 ≤ (k : Int) * (k : Int) := Int.mul_nonneg (by omega) (by omega)
    have hkk1 : (k : Int) * (k : Int) ≤ 64 := Int.mul_le_mul (c := 8) (d := 8) (by omega) (by omega) (by omega) (by omega)
    by_cases hle : k * k ≤ p
    · have hk7 := sq_le (by omega) hle
      have hm := prime_div HP.out k hk2 hle
      have hle2 : (k : Int) * (k : Int) ≤ (p : Int) := by have := Int.ofNat_le.2 hle; rwa [Int.natCast_mul] at this
      have hk0 : ¬ k = 0 := by omega
      have hm2 : (((p : Int) % (k : Int)) == 0) = false := beq_eq_false_iff_ne.2 (fun e => hm (by rw [← Int.natCast_emod] at e; omega))
      clear hm hle
      go_wp2
      go_roundw
      case rel => exact ⟨k + 1, by omega, by omega, by go_num, _, rfl⟩
      case measure => simp [intOf]; omega
    · have hle2 : (p : Int) < (k : Int) * (k : Int) := by have := Int.ofNat_lt.2 (Nat.not_le.1 hle); rwa [Int.natCast_mul] at this
      clear hle
      go_wp2
      go_ret
      exact ⟨rfl, m, rfl⟩
theorem l06Prime_no (p : Int) (hp : ¬ PrP p) (w : World) :
    Calls Tryd.prog 106 #[.int .i64 p] w fun e w' => e = .returned (.bool false) ∧ ∃ m, w' = w.drewN m := by
  by_cases hr : 3 ≤ p ∧ p ≤ 61
  · obtain ⟨h3, h61⟩ := hr
    obtain ⟨P, rfl⟩ := Int.eq_ofNat_of_zero_le (show 0 ≤ p by omega)
    have HP := Lib.hid (show ¬ primeN P = true from fun h => hp ⟨by omega, by rwa [Int.toNat_natCast]⟩)
    clear hp
    go_enter Tryd.func106, Tryd.ntmps106
    go_wp2_with (go_at_call 74; refine (l01In_yes _ _ _ _ (by omega) (by omega)).mono ?_; rintro e w' ⟨rfl, rfl⟩)
    go_loopw [3] (fun s3 wr => ∃ k : Nat, 2 ≤ k ∧ k ≤ 8 ∧ s3 = .int .i64 (k : Int) ∧ (∀ j, 2 ≤ j → j < k → ¬ P % j = 0) ∧ ∃ m, wr = w.drewN m) (fun s3 _ => 9 - (intOf s3).toNat)
    case atStart => exact ⟨2, by omega, by omega, rfl, fun j h1 h2 => by omega, 0, rfl⟩
    case round =>
      obtain ⟨k, hk2, hk8, rfl, hno, m, rfl⟩ := hrel
      have HN := Lib.hid hno; clear hno
      have hkk0 : 0 ≤ (k : Int) * (k : Int) := Int.mul_nonneg (by omega) (by omega)
      have hkk1 : (k : Int) * (k : Int) ≤ 64 := Int.mul_le_mul (c := 8) (d := 8) (by omega) (by omega) (by omega) (by omega)
      have hle : k * k ≤ P := by
        rcases Nat.lt_or_ge P (k * k) with h | h
        · exact absurd (prime_of_div (by omega) (by omega) h HN.out) HP.out
        · exact h
      have hk7 := sq_le (by omega) hle
      have hle2 : (k : Int) * (k : Int) ≤ (P : Int) := by have := Int.ofNat_le.2 hle; rwa [Int.natCast_mul] at this
      have hk0 : ¬ k = 0 := by omega
      clear hle
      by_cases hm : P % k = 0
      · have hm2 : (((P : Int) % (k : Int)) == 0) = true := by rw [← Int.natCast_emod, hm]; rfl
        clear hm
        go_wp2
        go_ret
        exact ⟨rfl, m, rfl⟩
      · have hm2 : (((P : Int) % (k : Int)) == 0) = false := beq_eq_false_iff_ne.2 (fun e => hm (by rw [← Int.natCast_emod] at e; omega))
        have HM := Lib.hid hm
        clear hm
        go_wp2
        go_roundw
        case rel => exact ⟨k + 1, by omega, by omega, by go_num, fun j h1 h2 => by
          rcases Nat.lt_or_ge j k with h | h
          · exact HN.out j h1 h
          · obtain rfl : j = k := by omega
            exact HM.out, _, rfl⟩
        case measure => simp [intOf]; omega
  · have H := Lib.hid (show p < 3 ∨ 61 < p by omega)
    clear hp hr
    go_enter Tryd.func106, Tryd.ntmps106
    go_wp2_with (go_at_call 74; refine (l01In_no _ _ _ _ H.out).mono ?_; rintro e w' ⟨rfl, rfl⟩)
    go_ret
    exact ⟨rfl, 0, rfl⟩


theorem l08Power_any (l x k : Nat) (hl : 2 ≤ l) (hl2 : l ≤ 61) (hx : x < l) (hk : k ≤ 100) (w : World) :
    Calls Tryd.prog 104 #[.int .i64 (l : Int), .int .i64 (x : Int), .int .i64 (k : Int)] w fun r w' => r = .returned (.int .i64 (pwr l x k : Nat)) ∧ ∃ m, w' = w.drewN m := by
  go_enter Tryd.func104, Tryd.ntmps104
  go_wp2
  go_loopw [2, 7] (fun s2 s7 wr => ∃ i : Nat, i ≤ k ∧ s7 = .int .i64 (pwr l x i : Nat) ∧ s2 = .int .i64 ((k - i : Nat) : Int) ∧ ∃ m, wr = w.drewN m) (fun s2 _ _ => (intOf s2).toNat)
  case atStart => exact ⟨0, by omega, rfl, rfl, 0, rfl⟩
  case round =>
    obtain ⟨i, hi, rfl, rfl, m, rfl⟩ := hrel
    by_cases hlt : i < k
    · have hb := pwr_lt (p := l) (g := x) (by omega) i
      have hp0 : 0 ≤ ((pwr l x i : Nat) : Int) * (x : Int) := Int.mul_nonneg (by omega) (by omega)
      have hp1 : ((pwr l x i : Nat) : Int) * (x : Int) ≤ 61 * 61 := Int.mul_le_mul (by omega) (by omega) (by omega) (by omega)
      have hl0 : ¬ l = 0 := by omega
      have HS := Lib.hid (show ((pwr l x i : Nat) : Int) * (x : Int) % (l : Int) = ((pwr l x (i + 1) : Nat) : Int) by rw [pwr_succ, ← Int.natCast_mul, ← Int.natCast_emod])
      have hki : ((k - i : Nat) : Int) = ((k - (i + 1) : Nat) : Int) + 1 := by omega
      rw [hki]
      clear hki
      go_wp2
      go_roundw
      case rel => exact ⟨i + 1, by omega, by rw [← HS.out], by first | rfl | go_num, _, rfl⟩
      case measure => simp [intOf] <;> omega
    · obtain rfl : i = k := by omega
      rw [Nat.sub_self]
      go_wp2
      go_ret
      exact ⟨rfl, m, rfl⟩

theorem one_madeS (w : World) (x : Int) (hx : inR x) (t : TypeId) (ht : t = 2) : Sl true (w.alloc (.cells #[.int .i64 x] t)) w.heap.size (w.heap.size + 1) (.slice (some ⟨w.heap.size, 0, none⟩) 1 1) 1 (fun _ => x) := by
  subst ht
  exact Sl.made w #[.int .i64 x] 2 1 1 (fun _ => x) (Nat.le_refl _) (by unfold maxLen; omega) (fun j hj => hx) (fun j hj => by have hj' : j < 1 := hj; obtain rfl : j = 0 := (by omega); rfl)
/-- Exponents are as told. -/
def ExP (f : Nat → Int) (n : Nat) : Prop := ∀ i, i < n → 1 ≤ f i ∧ f i ≤ 60
section
variable {o : Bool} {lo hi : Nat} {v : Value} {n : Nat} {f : Nat → Int}
set_option maxHeartbeats 1000000 in
theorem l08Code_yes (p : Nat) (hp : primeN p = true) (w : World) (hs : Sl o w lo hi v n f) (h : ExP f n) :
    Calls Tryd.prog 73 #[.int .i64 (p : Int), v] w fun r w' => r = .returned (.int .i64 0) ∧ Below w.heap.size w w' := by
  have hm := hs.len
  unfold maxLen at hm
  obtain ⟨a, cap, rfl⟩ := hs.shape
  have HS := Lib.hid hs
  have H := Lib.hid h
  have HP := Lib.hid hp
  have hsz := hs.size
  clear hs h hp
  go_enter Tryd.func73, Tryd.ntmps73
  go_wp2_with (go_at_call 106; refine (l06Prime_yes p HP.out _).mono ?_; rintro e w1 ⟨rfl, m1, rfl⟩)
  go_loopw [5] (fun s5 wr => ∃ k : Nat, k ≤ n ∧ s5 = .int .i64 (k : Int) ∧ Below w.heap.size w wr) (fun s5 _ => n - (intOf s5).toNat)
  case atStart => exact ⟨0, Nat.zero_le _, rfl, below_drewN (Below.refl _ _) _⟩
  case round =>
    obtain ⟨k, hk, rfl, hB⟩ := hrel
    by_cases hlt : k < n
    · obtain ⟨g, off, cap', hv, _, _, _, _, hc, _⟩ := (HS.out.keep hB hsz).at (by omega)
      obtain ⟨rfl, rfl⟩ : a = some ⟨g, off, none⟩ ∧ cap = cap' := by cases hv; exact ⟨rfl, rfl⟩
      clear hv
      have hck := hc k hlt
      clear hc
      obtain ⟨h1, h2⟩ := H.out k hlt
      go_wp2_with (go_at_call 74; refine (l01In_yes _ _ _ _ h1 h2).mono ?_; rintro e w' ⟨rfl, rfl⟩)
      go_roundw
      case rel => exact ⟨k + 1, by omega, by go_num, hB⟩
      case measure => simp [intOf] <;> omega
    · obtain rfl : k = n := by omega
      go_wp2
      go_ret
      exact ⟨rfl, hB⟩
set_option maxHeartbeats 1000000 in
theorem l08Code_no (p : Int) (w : World) (hs : Sl o w lo hi v n f) (h : ¬ (PrP p ∧ ExP f n)) :
    Calls Tryd.prog 73 #[.int .i64 p, v] w fun r w' => r = .returned (.int .i64 2) ∧ Below w.heap.size w w' := by
  have hm := hs.len
  unfold maxLen at hm
  obtain ⟨a, cap, rfl⟩ := hs.shape
  have HS := Lib.hid hs
  have HBD := Lib.hid hs.bd
  have hsz := hs.size
  clear hs
  by_cases hp : PrP p
  · have H := Lib.hid (show ¬ ExP f n from fun g => h ⟨hp, g⟩)
    obtain ⟨P, rfl⟩ := Int.eq_ofNat_of_zero_le hp.1
    have HP := Lib.hid (show primeN P = true by have := hp.2; rwa [Int.toNat_natCast] at this)
    clear h hp
    go_enter Tryd.func73, Tryd.ntmps73
    go_wp2_with (go_at_call 106; refine (l06Prime_yes P HP.out _).mono ?_; rintro e w1 ⟨rfl, m1, rfl⟩)
    go_loopw [5] (fun s5 wr => ∃ k : Nat, k ≤ n ∧ s5 = .int .i64 (k : Int) ∧ ExP f k ∧ Below w.heap.size w wr) (fun s5 _ => n - (intOf s5).toNat)
    case atStart => exact ⟨0, Nat.zero_le _, rfl, fun j hj => absurd hj (Nat.not_lt_zero _), below_drewN (Below.refl _ _) _⟩
    case round =>
      obtain ⟨k, hk, rfl, he, hB⟩ := hrel
      have HE := Lib.hid he
      clear he
      by_cases hlt : k < n
      · obtain ⟨g, off, cap', hv, _, _, _, _, hc, _⟩ := (HS.out.keep hB hsz).at (by omega)
        obtain ⟨rfl, rfl⟩ : a = some ⟨g, off, none⟩ ∧ cap = cap' := by cases hv; exact ⟨rfl, rfl⟩
        clear hv
        have hck := hc k hlt
        clear hc
        by_cases h1 : 1 ≤ f k ∧ f k ≤ 60
        · obtain ⟨h1, h2⟩ := h1
          go_wp2_with (go_at_call 74; refine (l01In_yes _ _ _ _ h1 h2).mono ?_; rintro e w' ⟨rfl, rfl⟩)
          go_roundw
          case rel => exact ⟨k + 1, by omega, by go_num, fun j hj => by
            rcases Nat.lt_succ_iff_lt_or_eq.1 hj with h | h
            · exact HE.out j h
            · subst h; exact ⟨h1, h2⟩, hB⟩
          case measure => simp [intOf] <;> omega
        · have h2 : f k < 1 ∨ 60 < f k := by omega
          have H2 := Lib.hid h2
          clear h1 h2
          go_wp2_with (go_at_call 74; refine (l01In_no _ _ _ _ H2.out).mono ?_; rintro e w' ⟨rfl, rfl⟩)
          go_ret
          exact ⟨rfl, hB⟩
      · obtain rfl : k = n := by omega
        exact absurd HE.out H.out
  · have H := Lib.hid hp
    clear h hp
    go_enter Tryd.func73, Tryd.ntmps73
    go_wp2_with (go_at_call 106; refine (l06Prime_no p H.out _).mono ?_; rintro e w1 ⟨rfl, m1, rfl⟩)
    go_ret
    exact ⟨rfl, below_drewN (Below.refl _ _) _⟩
end
set_option maxHeartbeats 2000000 in
theorem l08Values_any (p a k : Nat) (hp : 2 ≤ p) (hp2 : p ≤ 61) (ha : a ≤ 61) (hk : k ≤ 60) (w : World) :
    Calls Tryd.prog 75 #[.int .i64 (p : Int), .int .i64 (a : Int), .int .i64 (k : Int)] w fun r w' => r = .returned (.slice (some ⟨w.heap.size, 0, none⟩) p p) ∧ Sl true w' w.heap.size (w.heap.size + 1) (.slice (some ⟨w.heap.size, 0, none⟩) p p) p (cnT (vN p a k) 0 p) ∧ Below w.heap.size w w' ∧ w'.heap.size = w.heap.size + 1 := by
  have hmk := run_make_row' (P := Tryd.prog) 24 2 (.int .i64 0) 8 Tryd.underlying24 Tryd.info2 rfl .i64 .i64 p (by omega) (by omega)
  have Q0 := Lib.hid (Sl.made w (madeCells #[.int .i64 0] p) 2 p p (fun _ => 0) (Nat.le_refl _) (by unfold maxLen; omega) (fun j hj => by simp [inR]) (fun j hj => by simp [madeCells_at _ _ _ hj]))
  have B0 := Lib.hid ((Below.refl w.heap.size w).alloc (Nat.le_refl _) (.cells (madeCells #[.int .i64 0] p) 2))
  go_enter Tryd.func75, Tryd.ntmps75
  go_wp2
  go_loopw [8] (fun s8 wr => ∃ x : Nat, x ≤ p ∧ s8 = .int .i64 (x : Int) ∧ Sl true wr w.heap.size (w.heap.size + 1) (.slice (some ⟨w.heap.size, 0, none⟩) p p) p (cnT (vN p a k) 0 x) ∧ Below w.heap.size w wr ∧ wr.heap.size = w.heap.size + 1) (fun s8 _ => p - (intOf s8).toNat)
  case atStart => exact ⟨0, by omega, rfl, Q0.out.congr (fun j hj => rfl), B0.out, by simp⟩
  case round =>
    clear Q0 B0 hmk
    obtain ⟨x, hx, rfl, hq, hbl, hzz⟩ := hrel
    have HQ := Lib.hid hq
    have HB := Lib.hid hbl
    have HZ := Lib.hid hzz
    clear hq hbl hzz
    by_cases hlt : x < p
    · have hb := pwr_bd (p := p) (g := x) (by omega) k
      have HS := Lib.hid (show (a : Int) * ((pwr p x k : Nat) : Int) % (p : Int) = ((vN p a k x : Nat) : Int) by unfold vN; rw [Int.natCast_emod, Int.natCast_mul])
      have hp0 : 0 ≤ (a : Int) * ((pwr p x k : Nat) : Int) := Int.mul_nonneg (by omega) (by omega)
      have hp1 : (a : Int) * ((pwr p x k : Nat) : Int) ≤ 61 * 61 := Int.mul_le_mul (by omega) (by omega) (by omega) (by omega)
      have hn0 : ¬ p = 0 := by omega
      have hvl := vN_lt (p := p) (by omega) a k x
      have HN := Lib.hid (fun j => cnT_succ (vN p a k) x j)
      have hbd := cnT_bd (vN p a k) 0 x (vN p a k x)
      go_wp2_with (go_at_call 104; refine (l08Power_any p x k hp hp2 hlt (by omega) _).mono ?_; rintro e w1 ⟨rfl, m1, rfl⟩; have q1 := HQ.out.drewN m1; have hE := HS.out; obtain ⟨q, hq⟩ : ∃ q, vN p a k x = q := ⟨_, rfl⟩; rw [hq] at hE hvl; have hcq := (q1.known (by omega)).2.2.2.1 q hvl; rw [Nat.zero_add] at hcq; have hfq := (q1.known (by omega)).2.2.2.2 rfl q; rw [hq] at hbd)
      go_roundw
      case rel =>
        refine ⟨x + 1, by omega, by go_num, (q1.store0 hvl (x := cnT (vN p a k) 0 x q + 1) (by unfold inR; omega)).congr (fun j hj => ?_), (below_drewN HB.out m1).setCell (p := ⟨w.heap.size, q, none⟩) (Nat.le_refl _) _, by simpa [World.setCell] using HZ.out⟩
        rw [HN.out, hq]
        by_cases e : j = q
        · subst e; simp
        · rw [if_neg e, if_neg e]
      case measure => simp [intOf]; omega
    · obtain rfl : x = p := by omega
      go_wp2
      go_ret
      exact ⟨rfl, HQ.out, HB.out, HZ.out⟩
end Go.Proofs.YtacffobbbcfbcaaDoor
