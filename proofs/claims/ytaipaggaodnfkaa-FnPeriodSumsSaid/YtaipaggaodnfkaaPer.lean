/- Classes of residues: what is one, of the program and of the model; the model's indices. -/
import Derived.Test.YtaipaggaodnfkaaPerF
import Derived.Test.YtaipaggaodnfkaaPrm
import Derived.Test.YtaipaggaodnfkaaCopy
import Derived.Deep.RegionLaw
namespace Go.Proofs.Ytaipaggaodnfkaa
open Go.RowKit Go.ChangeShapes Go.Sort
set_option linter.unusedVariables false
set_option linter.unusedSimpArgs false

theorem haveClasses_yes (p e : Nat) (hp : primeN p = true) (h1 : 1 ≤ e) (h2 : e ≤ 12) (hd : (p - 1) % e = 0) (w : World) :
    Calls Try.prog 61 #[.int .i64 (p : Int), .int .i64 (e : Int)] w fun r w' => r = .returned (.bool true) ∧ Below w.heap.size w w' := by
  have HP := Lib.hid hp
  have HD := Lib.hid hd
  clear hp hd
  go_enter Try.func61, Try.ntmps61
  go_wp2_with (go_at_call 84; refine (haveCharacters_yes p e HP.out h1 (by omega) HD.out _).mono ?_; rintro r w1 ⟨rfl, b1⟩)
  go_ret
  exact ⟨by first | rfl | (simp; omega), b1⟩
theorem haveClasses_no (p e : Int) (h : ¬ HcP p e) (w : World) :
    Calls Try.prog 61 #[.int .i64 p, .int .i64 e] w fun r w' => r = .returned (.bool false) ∧ Below w.heap.size w w' := by
  by_cases hc : PrP p ∧ OrP p e
  · have h12 : 12 < e := by
      rcases Int.lt_or_le 12 e with h' | h'
      · exact h'
      · exact absurd ⟨hc.1, hc.2, h'⟩ h
    obtain ⟨⟨hp0, hp⟩, o1, o2, o3⟩ := hc
    obtain ⟨P, rfl⟩ := Int.eq_ofNat_of_zero_le hp0
    obtain ⟨E, rfl⟩ := Int.eq_ofNat_of_zero_le (show 0 ≤ e by omega)
    rw [Int.toNat_natCast] at hp
    have hb := primeN_bd hp
    have hd : (P - 1) % E = 0 := by
      rw [show ((P : Int) - 1) = ((P - 1 : Nat) : Int) by omega, ← Int.natCast_emod] at o3
      omega
    have HP := Lib.hid hp
    have HD := Lib.hid hd
    clear hp hd o3 h
    go_enter Try.func61, Try.ntmps61
    go_wp2_with (go_at_call 84; refine (haveCharacters_yes P E HP.out (by omega) (by omega) HD.out _).mono ?_; rintro r w1 ⟨rfl, b1⟩)
    go_ret
    exact ⟨by first | rfl | (simp; omega), b1⟩
  · have H := Lib.hid hc
    clear hc h
    go_enter Try.func61, Try.ntmps61
    go_wp2_with (go_at_call 84; refine (haveCharacters_no p e H.out _).mono ?_; rintro r w1 ⟨rfl, b1⟩)
    go_ret
    exact ⟨rfl, b1⟩
theorem isClass_yes (e i : Int) (w : World) (h : 0 ≤ i) (h' : i < e) :
    Calls Try.prog 69 #[.int .i64 e, .int .i64 i] w fun r w' => r = .returned (.bool true) ∧ w = w' := by
  go_enter Try.func69, Try.ntmps69
  go_wp2
  go_ret
  exact ⟨by first | rfl | (simp; omega), rfl⟩
theorem isClass_no (e i : Int) (w : World) (h : i < 0 ∨ e ≤ i) :
    Calls Try.prog 69 #[.int .i64 e, .int .i64 i] w fun r w' => r = .returned (.bool false) ∧ w = w' := by
  by_cases h1 : i < 0
  · clear h
    go_enter Try.func69, Try.ntmps69
    go_wp2
    go_ret
    exact ⟨by first | rfl | (simp; omega), rfl⟩
  · have h2 : e ≤ i := by omega
    have h3 : 0 ≤ i := by omega
    clear h h1
    go_enter Try.func69, Try.ntmps69
    go_wp2
    go_ret
    exact ⟨by first | rfl | (simp; omega), rfl⟩

section
variable {o : Bool} {lo hi : Nat} {v : Value} {n : Nat} {f : Nat → Int}
theorem isPeriodSum_yes (p e : Nat) (hp : primeN p = true) (h1 : 1 ≤ e) (h2 : e ≤ 12) (hd : (p - 1) % e = 0) (w : World) (hs : Sl o w lo hi v e f) (hw : Within f e 1000) :
    Calls Try.prog 74 #[.int .i64 (p : Int), .int .i64 (e : Int), v] w fun r w' => r = .returned (.bool true) ∧ Below w.heap.size w w' := by
  have HP := Lib.hid hp
  have HD := Lib.hid hd
  have HW := Lib.hid hw
  obtain ⟨a, cap, rfl⟩ := hs.shape
  have HS := Lib.hid hs
  clear hp hd hw hs
  go_enter Try.func74, Try.ntmps74
  go_wp2_with (first
    | (go_at_call 61; refine (haveClasses_yes p e HP.out h1 h2 HD.out _).mono ?_; rintro r w1 ⟨rfl, b1⟩)
    | (go_at_call 90; refine (areWithin_yes _ _ (by omega) (by omega) (HS.out.keep b1 HS.out.size) HW.out).mono ?_; rintro r w2 ⟨rfl, rfl⟩))
  go_ret
  exact ⟨by first | rfl | (simp; omega), b1⟩
theorem isPeriodSum_no (p e : Int) (w : World) (hs : Sl o w lo hi v n f) (h : ¬ (HcP p e ∧ (n : Int) = e ∧ Within f n 1000)) :
    Calls Try.prog 74 #[.int .i64 p, .int .i64 e, v] w fun r w' => r = .returned (.bool false) ∧ Below w.heap.size w w' := by
  obtain ⟨a, cap, rfl⟩ := hs.shape
  have hm := hs.len
  unfold maxLen at hm
  have HS := Lib.hid hs
  clear hs
  by_cases hc : HcP p e
  · obtain ⟨P, E, rfl, rfl, hp, h1, h2, hd⟩ := hc.nat
    have hb := primeN_bd hp
    have HP := Lib.hid hp
    have HD := Lib.hid hd
    by_cases hn : n = E
    · subst hn
      have HW := Lib.hid (show ¬ Within f n 1000 from fun h' => h ⟨hc, rfl, h'⟩)
      clear hp hd hc h
      go_enter Try.func74, Try.ntmps74
      go_wp2_with (first
        | (go_at_call 61; refine (haveClasses_yes P n HP.out h1 h2 HD.out _).mono ?_; rintro r w1 ⟨rfl, b1⟩)
        | (go_at_call 90; refine (areWithin_no _ _ (by omega) (by omega) (HS.out.keep b1 HS.out.size) HW.out).mono ?_; rintro r w2 ⟨rfl, rfl⟩))
      go_ret
      exact ⟨by first | rfl | (simp; omega), b1⟩
    · have hne : ((n : Int) == (E : Int)) = false := beq_eq_false_iff_ne.2 (by omega)
      clear hp hd hc h hn
      go_enter Try.func74, Try.ntmps74
      go_wp2_with (go_at_call 61; refine (haveClasses_yes P E HP.out h1 h2 HD.out _).mono ?_; rintro r w1 ⟨rfl, b1⟩)
      go_ret
      exact ⟨by first | rfl | (simp; omega), b1⟩
  · have H := Lib.hid hc
    clear hc h
    go_enter Try.func74, Try.ntmps74
    go_wp2_with (go_at_call 61; refine (haveClasses_no p e H.out _).mono ?_; rintro r w1 ⟨rfl, b1⟩)
    go_ret
    exact ⟨by first | rfl | (simp; omega), b1⟩
end

theorem l06Prime_yes (p : Nat) (hp : primeN p = true) (w : World) :
    Calls Try.prog 86 #[.int .i64 (p : Int)] w fun e w' => e = .returned (.bool true) ∧ ∃ m, w' = w.drewN m := by
  have hb := primeN_bd hp
  have HP := Lib.hid hp; clear hp
  go_enter Try.func86, Try.ntmps86
  go_wp2_with (go_at_call 67; refine (l01In_yes _ _ _ _ (by omega) (by omega)).mono ?_; rintro e w' ⟨rfl, rfl⟩)
  go_loopw [3] (fun s3 wr => ∃ k : Nat, 2 ≤ k ∧ k ≤ 8 ∧ s3 = .int .i64 (k : Int) ∧ ∃ m, wr = w.drewN m) (fun s3 _ => 9 - (intOf s3).toNat)
  case atStart => exact ⟨2, by omega, by omega, rfl, 0, rfl⟩
  case round =>
    obtain ⟨k, hk2, hk8, rfl, m, rfl⟩ := hrel
    have hkk0 : 0 ≤ (k : Int) * (k : Int) := Int.mul_nonneg (by omega) (by omega)
    have hkk1 : (k : Int) * (k : Int) ≤ 64 := Int.mul_le_mul (c := 8) (d := 8) (by omega) (by omega) (by omega) (by omega)
    by_cases hle : k * k ≤ p
    · have hk7 := sq_le (by omega) hle
      have hm := prime_div HP.out k hk2 hle
      have hle2 : (k : Int) * (k : Int) ≤ (p : Int) := by have := Int.ofNat_le.2 hle; rwa [Int.natCast_mul] at this
      have hk0 : ¬ k = 0 := by omega
      have hm2 : (((p : Int) % (k : Int)) == 0) = false := beq_eq_false_iff_ne.2 (fun e => hm (by rw [← Int.natCast_emod] at e; omega))
      clear hm hle
      go_wp2
      go_roundw
      case rel => exact ⟨k + 1, by omega, by omega, by go_num, _, rfl⟩
      case measure => simp [intOf]; omega
    · have hle2 : (p : Int) < (k : Int) * (k : Int) := by have := Int.ofNat_lt.2 (Nat.not_le.1 hle); rwa [Int.natCast_mul] at this
      clear hle
      go_wp2
      go_ret
      exact ⟨rfl, m, rfl⟩
theorem l06Prime_no (p : Int) (hp : ¬ PrP p) (w : World) :
    Calls Try.prog 86 #[.int .i64 p] w fun e w' => e = .returned (.bool false) ∧ ∃ m, w' = w.drewN m := by
  by_cases hr : 3 ≤ p ∧ p ≤ 61
  · obtain ⟨h3, h61⟩ := hr
    obtain ⟨P, rfl⟩ := Int.eq_ofNat_of_zero_le (show 0 ≤ p by omega)
    have HP := Lib.hid (show ¬ primeN P = true from fun h => hp ⟨by omega, by rwa [Int.toNat_natCast]⟩)
    clear hp
    go_enter Try.func86, Try.ntmps86
    go_wp2_with (go_at_call 67; refine (l01In_yes _ _ _ _ (by omega) (by omega)).mono ?_; rintro e w' ⟨rfl, rfl⟩)
    go_loopw [3] (fun s3 wr => ∃ k : Nat, 2 ≤ k ∧ k ≤ 8 ∧ s3 = .int .i64 (k : Int) ∧ (∀ j, 2 ≤ j → j < k → ¬ P % j = 0) ∧ ∃ m, wr = w.drewN m) (fun s3 _ => 9 - (intOf s3).toNat)
    case atStart => exact ⟨2, by omega, by omega, rfl, fun j h1 h2 => by omega, 0, rfl⟩
    case round =>
      obtain ⟨k, hk2, hk8, rfl, hno, m, rfl⟩ := hrel
      have HN := Lib.hid hno; clear hno
      have hkk0 : 0 ≤ (k : Int) * (k : Int) := Int.mul_nonneg (by omega) (by omega)
      have hkk1 : (k : Int) * (k : Int) ≤ 64 := Int.mul_le_mul (c := 8) (d := 8) (by omega) (by omega) (by omega) (by omega)
      have hle : k * k ≤ P := by
        rcases Nat.lt_or_ge P (k * k) with h | h
        · exact absurd (prime_of_div (by omega) (by omega) h HN.out) HP.out
        · exact h
      have hk7 := sq_le (by omega) hle
      have hle2 : (k : Int) * (k : Int) ≤ (P : Int) := by have := Int.ofNat_le.2 hle; rwa [Int.natCast_mul] at this
      have hk0 : ¬ k = 0 := by omega
      clear hle
      by_cases hm : P % k = 0
      · have hm2 : (((P : Int) % (k : Int)) == 0) = true := by rw [← Int.natCast_emod, hm]; rfl
        clear hm
        go_wp2
        go_ret
        exact ⟨rfl, m, rfl⟩
      · have hm2 : (((P : Int) % (k : Int)) == 0) = false := beq_eq_false_iff_ne.2 (fun e => hm (by rw [← Int.natCast_emod] at e; omega))
        have HM := Lib.hid hm
        clear hm
        go_wp2
        go_roundw
        case rel => exact ⟨k + 1, by omega, by omega, by go_num, fun j h1 h2 => by
          rcases Nat.lt_or_ge j k with h | h
          · exact HN.out j h1 h
          · obtain rfl : j = k := by omega
            exact HM.out, _, rfl⟩
        case measure => simp [intOf]; omega
  · have H := Lib.hid (show p < 3 ∨ 61 < p by omega)
    clear hp hr
    go_enter Try.func86, Try.ntmps86
    go_wp2_with (go_at_call 67; refine (l01In_no _ _ _ _ H.out).mono ?_; rintro e w' ⟨rfl, rfl⟩)
    go_ret
    exact ⟨rfl, 0, rfl⟩

theorem root_ge2 {p : Nat} (hp : primeN p = true) : 2 ≤ rootN p := by unfold rootN; split <;> (try split) <;> (try split) <;> omega
theorem l06Root_any (p : Nat) (hp : primeN p = true) (w : World) :
    Calls Try.prog 89 #[.int .i64 (p : Int)] w fun e w' => e = .returned (.int .i64 (rootN p : Nat)) ∧ ∃ m, w' = w.drewN m := by
  have hb := primeN_bd hp
  have HR := Lib.hid (root_ok hp)
  have hr2 := root_ge2 hp
  have HP := Lib.hid hp; clear hp
  go_enter Try.func89, Try.ntmps89
  go_wp2
  go_loopw [3] (fun s3 wr => ∃ g : Nat, 2 ≤ g ∧ g ≤ rootN p ∧ s3 = .int .i64 (g : Int) ∧ ∃ m, wr = w.drewN m) (fun s3 _ => rootN p + 1 - (intOf s3).toNat)
  case atStart => exact ⟨2, by omega, hr2, rfl, 0, rfl⟩
  case round =>
    obtain ⟨g, hg1, hg2, rfl, m, rfl⟩ := hrel
    have hrp := HR.out.2.1
    have HQ := Lib.hid (per_ok HP.out (g := g) (by omega) (by omega))
    have HO := Lib.hid (pwr_one (p := p) (g := g) (by omega))
    have hp0 : ¬ p = 0 := by omega
    have hgm : (g : Int) % (p : Int) = (g : Int) := Int.emod_eq_of_lt (by omega) (by omega)
    go_wp2
    go_loopw [4, 5] (fun s4 s5 wr => ∃ k : Nat, 1 ≤ k ∧ k ≤ perN p g ∧ s4 = .int .i64 (k : Int) ∧ s5 = .int .i64 (pwr p g k : Nat) ∧ ∃ m, wr = w.drewN m) (fun s4 _ _ => perN p g + 1 - (intOf s4).toNat)
    case atStart => exact ⟨1, by omega, HQ.out.1, rfl, by rw [HO.out, hgm], m, rfl⟩
    case round =>
      obtain ⟨k, hk1, hk2, rfl, rfl, m2, rfl⟩ := hrel
      have hle := HQ.out.2.1
      have hx := HQ.out.2.2.2.2 k hk2
      have hpp0 : 0 ≤ ((pwr p g k : Nat) : Int) * (g : Int) := Int.mul_nonneg (by omega) (by omega)
      have hpp1 : ((pwr p g k : Nat) : Int) * (g : Int) ≤ 61 * 61 := Int.mul_le_mul (by omega) (by omega) (by omega) (by omega)
      by_cases hlt : k < perN p g
      · have hne := HQ.out.2.2.2.1 k hk1 hlt
        have hne2 : (((pwr p g k : Nat) : Int) != 1) = true := by rw [bne_iff_ne]; omega
        have HS := Lib.hid (pwr_step (p := p) (g := g) (k := k) (by omega))
        clear hne
        go_wp2
        go_roundw
        case rel => exact ⟨k + 1, by omega, by omega, by go_num, by rw [← HS.out], _, rfl⟩
        case measure => simp [intOf]; omega
      · obtain rfl : k = perN p g := by omega
        have HE := Lib.hid HQ.out.2.2.1
        have hne2 : (((pwr p g (perN p g) : Nat) : Int) != 1) = false := by rw [HE.out]; rfl
        by_cases hlg : g < rootN p
        · have hl := HR.out.2.2.2 g (by omega) hlg
          have hq : (((perN p g : Nat) : Int) == (p : Int) - 1) = false := beq_eq_false_iff_ne.2 (by omega)
          go_wp2
          go_roundw
          case rel => exact ⟨g + 1, by omega, by omega, by go_num, _, rfl⟩
          case measure => simp [intOf]; omega
        · obtain rfl : g = rootN p := by omega
          have hl := HR.out.2.2.1
          have hq : (((perN p (rootN p) : Nat) : Int) == (p : Int) - 1) = true := by rw [hl]; simp; omega
          clear hl
          go_wp2
          go_ret
          exact ⟨rfl, m2, rfl⟩
end Go.Proofs.Ytaipaggaodnfkaa
