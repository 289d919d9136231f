/- The model's indices, and its errors of classes and of sums of periods. -/
import Derived.Test.YtaipaggaodnfkaaPer
namespace Go.Proofs.Ytaipaggaodnfkaa
open Go.RowKit Go.ChangeShapes Go.Sort
set_option linter.unusedVariables false
set_option linter.unusedSimpArgs false

/-- The index at y, -1 at 0. -/
def indV (p : Nat) (y : Nat) : Int := if y = 0 then -1 else (idxN p y : Nat)
/-- .. when i powers have come. -/
def indP (p i : Nat) (y : Nat) : Int := if y = 0 then -1 else if idxN p y < i then (idxN p y : Nat) else 0
theorem indP_step {p i : Nat} (hp : primeN p = true) (hi : i < p - 1) {y : Nat} (hy : y < p) : indP p (i + 1) y = if y = pwr p (rootN p) i then (i : Int) else indP p i y := by
  obtain ⟨b1, b2, b3⟩ := back_ok hp hi
  unfold indP
  by_cases h0 : y = 0
  · rw [if_pos h0, if_pos h0, if_neg (by omega)]
  · rw [if_neg h0, if_neg h0]
    by_cases e : y = pwr p (rootN p) i
    · have hiy : idxN p y = i := by rw [e, b3]
      rw [if_pos e, hiy, if_pos (Nat.lt_succ_self i)]
    · rw [if_neg e]
      have hne : idxN p y ≠ i := fun h => e (by rw [← h]; exact (idx_ok hp (by omega) hy).2.1.symm)
      by_cases h2 : idxN p y < i
      · rw [if_pos h2, if_pos (by omega)]
      · rw [if_neg h2, if_neg (by omega)]
theorem indP_all {p : Nat} (hp : primeN p = true) {y : Nat} (hy : y < p) : indV p y = indP p (p - 1) y := by
  unfold indP indV
  by_cases h0 : y = 0
  · rw [if_pos h0, if_pos h0]
  · rw [if_neg h0, if_neg h0, if_pos (idx_ok hp (by omega) hy).1]
theorem indP_start (p : Nat) (y : Nat) : indP p 0 y = if y = 0 then -1 else 0 := by
  unfold indP; split
  · rfl
  · rw [if_neg (by omega)]

set_option maxRecDepth 100000 in
set_option maxHeartbeats 2000000 in
theorem l06Indices_any (p : Nat) (hp : primeN p = true) (w : World) :
    Calls Try.prog 68 #[.int .i64 (p : Int)] w fun e w' => ∃ g, e = .returned (.slice (some ⟨g, 0, none⟩) p p) ∧ Sl true w' w.heap.size w'.heap.size (.slice (some ⟨g, 0, none⟩) p p) p (indV p) ∧ Below w.heap.size w w' := by
  have hb := primeN_bd hp
  have HP := Lib.hid hp; clear hp
  have HR := Lib.hid (root_ok HP.out)
  have hr2 := root_ge2 HP.out
  have hmk := run_make_row' (P := Try.prog) 33 2 (.int .i64 0) 8 Try.underlying33 Try.info2 rfl .i64 .i64 p (by omega) (by omega)
  go_enter Try.func68, Try.ntmps68
  go_wp2
  go_region_law (first
    | (go_simp; go_at_call 89; refine (l06Root_any p HP.out _).mono ?_; rintro e w6 ⟨rfl, m6, rfl⟩))
  all_goals
    have q0 := (Sl.made w (madeCells #[.int .i64 0] p) 2 p p (fun _ => 0) (Nat.le_refl _) (by unfold maxLen; omega) (fun j hj => by simp [inR]) (fun j hj => by simp [madeCells_at _ _ _ hj])).drewN (1 + m6)
    have bl0 := below_drewN ((Below.refl w.heap.size w).alloc (Nat.le_refl _) (.cells (madeCells #[.int .i64 0] p) 2)) (1 + m6)
    have hz0 : ((w.alloc (.cells (madeCells #[.int .i64 0] p) 2)).drewN (1 + m6)).heap.size = w.heap.size + 1 := by simp
    have c0 := (q0.known (by omega)).2.2.2.1 0 (by omega)
    rw [Nat.zero_add] at c0
    have f0 := (q0.known (by omega)).2.2.2.2 rfl 0
    have c0' : ((w.drewN (1 + m6)).alloc (.cells (madeCells #[.int .i64 0] p) 2)).cell? ⟨w.heap.size, 0, none⟩ = some (.int .i64 0) := c0
    have f0' : ((w.drewN (1 + m6)).alloc (.cells (madeCells #[.int .i64 0] p) 2)).frozen? ⟨w.heap.size, 0, none⟩ = false := f0
    have q1 := (q0.store0 (i := 0) (by omega) (x := -1) (by unfold inR; omega)).congr (f' := indP p 0) (fun j hj => by rw [indP_start])
    have bl1 := bl0.setCell (p := ⟨w.heap.size, 0, none⟩) (Nat.le_refl _) (.int .i64 (-1))
    have Q1 := Lib.hid q1
    have BL1 := Lib.hid bl1
    clear q0 bl0 q1 bl1 hmk
    go_wp2
    go_loopw [5, 6] (fun s5 s6 wr => ∃ i : Nat, i ≤ p - 1 ∧ s5 = .int .i64 (pwr p (rootN p) i : Nat) ∧ s6 = .int .i64 (i : Int) ∧ Sl true wr w.heap.size (w.heap.size + 1) (.slice (some ⟨w.heap.size, 0, none⟩) p p) p (indP p i) ∧ Below w.heap.size w wr) (fun _ s6 _ => p - (intOf s6).toNat)
    case atStart => exact ⟨0, by omega, rfl, rfl, Q1.out, BL1.out⟩
    case round =>
      clear Q1 BL1 c0 f0 c0' f0'
      obtain ⟨i, hi, rfl, rfl, hs, hbl⟩ := hrel
      have HS := Lib.hid hs
      have HBL := Lib.hid hbl
      have hss := hs.size
      clear hs hbl
      by_cases hlt : i < p - 1
      · obtain ⟨b1, b2, b3⟩ := back_ok HP.out hlt
        have HST := Lib.hid (fun y (hy : y < p) => indP_step HP.out hlt hy)
        have hcx := (HS.out.known (by omega)).2.2.2.1 (pwr p (rootN p) i) b2
        rw [Nat.zero_add] at hcx
        have hfx := (HS.out.known (by omega)).2.2.2.2 rfl (pwr p (rootN p) i)
        have hpp0 : 0 ≤ ((pwr p (rootN p) i : Nat) : Int) * ((rootN p : Nat) : Int) := Int.mul_nonneg (by omega) (by omega)
        have hpp1 : ((pwr p (rootN p) i : Nat) : Int) * ((rootN p : Nat) : Int) ≤ 61 * 61 := Int.mul_le_mul (by omega) (by have := HR.out.2.1; omega) (by omega) (by omega)
        have hp0 : ¬ p = 0 := by omega
        have HPS := Lib.hid (pwr_step (p := p) (g := rootN p) (k := i) (by omega))
        clear b3
        go_wp2
        go_roundw
        case rel => exact ⟨i + 1, by omega, by rw [← HPS.out], by go_num, (HS.out.store0 b2 (x := (i : Int)) (by unfold inR; omega)).congr (fun y hy => HST.out y hy), HBL.out.setCell (p := ⟨w.heap.size, pwr p (rootN p) i, none⟩) (Nat.le_refl _) _⟩
        case measure => simp [intOf]; omega
      · obtain rfl : i = p - 1 := by omega
        have hpI : ((p - 1 : Nat) : Int) = (p : Int) - 1 := by omega
        go_wp2
        go_ret
        exact ⟨_, rfl, (HS.out.congr (fun y hy => indP_all HP.out hy)).wide (Nat.le_refl _) (by omega) (Nat.le_refl _), HBL.out⟩

section
variable {o : Bool} {lo hi : Nat} {v : Value} {n : Nat} {f : Nat → Int}
set_option maxHeartbeats 1000000 in
theorem l06Code_yes (p e : Nat) (hp : primeN p = true) (h1 : 1 ≤ e) (h2 : e ≤ 12) (hd : (p - 1) % e = 0) (w : World) (hs : Sl o w lo hi v n f) (hf : ∀ j, j < n → 0 ≤ f j ∧ f j < e) :
    Calls Try.prog 63 #[.int .i64 (p : Int), .int .i64 (e : Int), v] w fun r w' => r = .returned (.int .i64 0) ∧ ∃ m, w' = w.drewN m := by
  have hb := primeN_bd hp
  have HP := Lib.hid hp
  have HF := Lib.hid hf
  have hm := hs.len
  unfold maxLen at hm
  obtain ⟨a, cap, rfl⟩ := hs.shape
  have HS := Lib.hid hs
  have he0 : ¬ e = 0 := by omega
  have hdi : (((p : Int) - 1) % (e : Int) != 0) = false := by
    rw [show ((p : Int) - 1) = ((p - 1 : Nat) : Int) by omega, ← Int.natCast_emod, hd]; rfl
  clear hp hd hs hf
  go_enter Try.func63, Try.ntmps63
  go_wp2_with (first
    | (go_at_call 86; refine (l06Prime_yes p HP.out _).mono ?_; rintro r w1 ⟨rfl, m1, rfl⟩)
    | (go_at_call 67; refine (l01In_yes _ _ _ _ (by omega) (by omega)).mono ?_; rintro r w2 ⟨rfl, rfl⟩))
  go_loopw [7] (fun s7 wr => ∃ k : Nat, k ≤ n ∧ s7 = .int .i64 (k : Int) ∧ ∃ m, wr = w.drewN m) (fun s7 _ => n - (intOf s7).toNat)
  case atStart => exact ⟨0, Nat.zero_le _, rfl, _, rfl⟩
  case round =>
    obtain ⟨k, hk, rfl, m, rfl⟩ := hrel
    by_cases hlt : k < n
    · obtain ⟨g, off, cap', hv, _, _, _, _, hc, _⟩ := (HS.out.drewN m).at (by omega)
      obtain ⟨rfl, rfl⟩ : a = some ⟨g, off, none⟩ ∧ cap = cap' := by cases hv; exact ⟨rfl, rfl⟩
      clear hv
      have hck := hc k hlt
      clear hc
      obtain ⟨hw1, hw2⟩ := HF.out k hlt
      go_wp2_with (go_at_call 67; refine (l01In_yes _ _ _ _ (by omega) (by omega)).mono ?_; rintro r w' ⟨rfl, rfl⟩)
      go_roundw
      case rel => exact ⟨k + 1, by omega, by go_num, _, rfl⟩
      case measure => simp [intOf]; omega
    · go_wp2
      go_ret
      exact ⟨rfl, _, rfl⟩
set_option maxHeartbeats 1000000 in
theorem l06Code_no (p e : Int) (w : World) (hs : Sl o w lo hi v n f) (h : ¬ (HcP p e ∧ ∀ j, j < n → 0 ≤ f j ∧ f j < e)) :
    Calls Try.prog 63 #[.int .i64 p, .int .i64 e, v] w fun r w' => r = .returned (.int .i64 2) ∧ ∃ m, w' = w.drewN m := by
  have hm := hs.len
  unfold maxLen at hm
  obtain ⟨a, cap, rfl⟩ := hs.shape
  have HS := Lib.hid hs
  clear hs
  by_cases hp : PrP p
  · obtain ⟨P, rfl⟩ := Int.eq_ofNat_of_zero_le hp.1
    have hp2 : primeN P = true := by have := hp.2; rwa [Int.toNat_natCast] at this
    have hb := primeN_bd hp2
    have HP := Lib.hid hp2
    clear hp2
    by_cases he : 1 ≤ e ∧ e ≤ 12
    · obtain ⟨he1, he2⟩ := he
      obtain ⟨E, rfl⟩ := Int.eq_ofNat_of_zero_le (show 0 ≤ e by omega)
      have he0 : ¬ E = 0 := by omega
      by_cases hd : ((P : Int) - 1) % (E : Int) = 0
      · have HN := Lib.hid (show ¬ ∀ j, j < n → 0 ≤ f j ∧ f j < (E : Int) from fun h' => h ⟨⟨hp, ⟨he1, by omega, hd⟩, he2⟩, h'⟩)
        have hdi : (((P : Int) - 1) % (E : Int) != 0) = false := by rw [hd]; rfl
        clear h hp hd
        go_enter Try.func63, Try.ntmps63
        go_wp2_with (first
          | (go_at_call 86; refine (l06Prime_yes P HP.out _).mono ?_; rintro r w1 ⟨rfl, m1, rfl⟩)
          | (go_at_call 67; refine (l01In_yes _ _ _ _ (by omega) (by omega)).mono ?_; rintro r w2 ⟨rfl, rfl⟩))
        go_loopw [7] (fun s7 wr => ∃ k : Nat, k ≤ n ∧ s7 = .int .i64 (k : Int) ∧ (∀ j, j < k → 0 ≤ f j ∧ f j < (E : Int)) ∧ ∃ m, wr = w.drewN m) (fun s7 _ => n - (intOf s7).toNat)
        case atStart => exact ⟨0, Nat.zero_le _, rfl, fun j hj => absurd hj (Nat.not_lt_zero _), _, rfl⟩
        case round =>
          obtain ⟨k, hk, rfl, hwk, m, rfl⟩ := hrel
          have HK := Lib.hid hwk; clear hwk
          by_cases hlt : k < n
          · obtain ⟨g, off, cap', hv, _, _, _, _, hc, _⟩ := (HS.out.drewN m).at (by omega)
            obtain ⟨rfl, rfl⟩ : a = some ⟨g, off, none⟩ ∧ cap = cap' := by cases hv; exact ⟨rfl, rfl⟩
            clear hv
            have hck := hc k hlt
            clear hc
            by_cases hw : 0 ≤ f k ∧ f k < (E : Int)
            · obtain ⟨hw1, hw2⟩ := hw
              go_wp2_with (go_at_call 67; refine (l01In_yes _ _ _ _ (by omega) (by omega)).mono ?_; rintro r w' ⟨rfl, rfl⟩)
              go_roundw
              case rel => exact ⟨k + 1, by omega, by go_num, fun j hj => by
                by_cases e : j = k
                · subst e; exact ⟨hw1, hw2⟩
                · exact HK.out j (by omega), _, rfl⟩
              case measure => simp [intOf]; omega
            · have hw' : f k < 0 ∨ (E : Int) - 1 < f k := by omega
              have HW' := Lib.hid hw'
              clear hw hw'
              go_wp2_with (go_at_call 67; refine (l01In_no _ _ _ _ HW'.out).mono ?_; rintro r w' ⟨rfl, rfl⟩)
              go_ret
              exact ⟨rfl, _, rfl⟩
          · exact absurd (show ∀ j, j < n → 0 ≤ f j ∧ f j < (E : Int) from fun j hj => HK.out j (by omega)) HN.out
      · have hdi : (((P : Int) - 1) % (E : Int) != 0) = true := by rw [bne_iff_ne]; exact hd
        clear h hp hd
        go_enter Try.func63, Try.ntmps63
        go_wp2_with (first
          | (go_at_call 86; refine (l06Prime_yes P HP.out _).mono ?_; rintro r w1 ⟨rfl, m1, rfl⟩)
          | (go_at_call 67; refine (l01In_yes _ _ _ _ (by omega) (by omega)).mono ?_; rintro r w2 ⟨rfl, rfl⟩))
        go_ret
        exact ⟨rfl, _, rfl⟩
    · have HE := Lib.hid (show e < 1 ∨ 12 < e by omega)
      clear h hp he
      go_enter Try.func63, Try.ntmps63
      go_wp2_with (first
        | (go_at_call 86; refine (l06Prime_yes P HP.out _).mono ?_; rintro r w1 ⟨rfl, m1, rfl⟩)
        | (go_at_call 67; refine (l01In_no _ _ _ _ HE.out).mono ?_; rintro r w2 ⟨rfl, rfl⟩))
      go_ret
      exact ⟨rfl, _, rfl⟩
  · have H := Lib.hid hp
    clear h hp
    go_enter Try.func63, Try.ntmps63
    go_wp2_with (go_at_call 86; refine (l06Prime_no p H.out _).mono ?_; rintro r w1 ⟨rfl, m1, rfl⟩)
    go_ret
    exact ⟨rfl, _, rfl⟩
end

/-- In w the M cells from the start of block g on hold slices; number i has the numbers F i 0, .., ln i of them. -/
def Heads (w : World) (g M : Nat) (u : Nat → Value) (ln : Nat → Nat) (G : Nat → Nat → Int) : Prop :=
  ∀ i, i < M → w.cell? ⟨g, i, none⟩ = some (u i) ∧ ∃ (o : Bool) (lo hi : Nat), Sl o w lo hi (u i) (ln i) (G i)
theorem Heads.drewN {w : World} {g M : Nat} {u : Nat → Value} {ln : Nat → Nat} {G : Nat → Nat → Int} (h : Heads w g M u ln G) (m : Nat) : Heads (w.drewN m) g M u ln G :=
  fun i hi => ⟨(h i hi).1, by obtain ⟨o, a, b, hs⟩ := (h i hi).2; exact ⟨o, a, b, hs.drewN m⟩⟩
section
variable {g M cap : Nat} {u : Nat → Value} {ln : Nat → Nat} {G : Nat → Nat → Int}
set_option maxHeartbeats 2000000 in
theorem l06Sum_yes (p e : Nat) (hp : primeN p = true) (h1 : 1 ≤ e) (h2 : e ≤ 12) (hd : (p - 1) % e = 0) (w : World) (hM : M ≤ 2) (hs : Heads w g M u ln G) (hf : ∀ i, i < M → ln i = e ∧ Within (G i) e 1000) :
    Calls Try.prog 77 #[.int .i64 (p : Int), .int .i64 (e : Int), .slice (some ⟨g, 0, none⟩) M cap] w fun r w' => r = .returned (.int .i64 0) ∧ ∃ m, w' = w.drewN m := by
  have HP := Lib.hid hp
  have HF := Lib.hid hf
  have HD := Lib.hid hd
  have HS := Lib.hid hs
  clear hp hd hs hf
  go_enter Try.func77, Try.ntmps77
  go_wp2_with (go_at_call 63; refine (l06Code_yes p e HP.out h1 h2 HD.out _ (o := false) (Sl.nil _ 0 0 (Nat.zero_le _) (fun _ => 0)) (fun j hj => absurd hj (Nat.not_lt_zero _))).mono ?_; rintro r w1 ⟨rfl, m1, rfl⟩)
  go_loopw [8] (fun s8 wr => ∃ i : Nat, i ≤ M ∧ s8 = .int .i64 (i : Int) ∧ ∃ m, wr = w.drewN m) (fun s8 _ => M - (intOf s8).toNat)
  case atStart => exact ⟨0, Nat.zero_le _, rfl, _, rfl⟩
  case round =>
    obtain ⟨i, hi, rfl, m, rfl⟩ := hrel
    by_cases hlt : i < M
    · obtain ⟨hcell, o, lo, hi2, hsl⟩ := (HS.out.drewN m) i hlt
      obtain ⟨hln, hW⟩ := HF.out i hlt
      obtain ⟨a, cap1, hu⟩ := hsl.shape
      rw [hu] at hcell hsl
      rw [hln] at hcell hsl
      have HW := Lib.hid hW
      have HSL := Lib.hid hsl
      clear hsl hu hln hW
      go_wp2
      go_loopw [9] (fun s9 wq => ∃ k : Nat, k ≤ e ∧ s9 = .int .i64 (k : Int) ∧ ∃ m, wq = w.drewN m) (fun s9 _ => e - (intOf s9).toNat)
      case atStart => exact ⟨0, Nat.zero_le _, rfl, _, rfl⟩
      case round =>
        obtain ⟨k, hk, rfl, m2, rfl⟩ := hrel
        have hcell2 : (w.drewN m2).cell? ⟨g, i, none⟩ = some (.slice a e cap1) := hcell
        by_cases hltk : k < e
        · obtain ⟨g1, off, cap', hv, _, _, _, _, hc, _⟩ := HSL.out.at (by omega)
          obtain ⟨rfl, rfl⟩ : a = some ⟨g1, off, none⟩ ∧ cap1 = cap' := by cases hv; exact ⟨rfl, rfl⟩
          clear hv
          have hck : (w.drewN m2).cell? ⟨g1, off + k, none⟩ = some (.int .i64 (G i k)) := hc k hltk
          clear hc
          obtain ⟨hw1, hw2⟩ := HW.out k hltk
          go_wp2_with (go_at_call 67; refine (l01In_yes _ _ _ _ (by omega) (by omega)).mono ?_; rintro r w' ⟨rfl, rfl⟩)
          go_roundw
          case rel => exact ⟨k + 1, by omega, by go_num, _, rfl⟩
          case measure => simp [intOf]; omega
        · go_wp2
          go_roundw
          case rel => exact ⟨i + 1, by omega, by go_num, _, rfl⟩
          case measure => simp [intOf]; omega
    · go_wp2
      go_ret
      exact ⟨rfl, _, rfl⟩
set_option maxHeartbeats 2000000 in
theorem l06Sum_no (p e : Int) (w : World) (hM : M ≤ 2) (hs : Heads w g M u ln G) (h : ¬ (HcP p e ∧ ∀ i, i < M → (ln i : Int) = e ∧ Within (G i) (ln i) 1000)) :
    Calls Try.prog 77 #[.int .i64 p, .int .i64 e, .slice (some ⟨g, 0, none⟩) M cap] w fun r w' => r = .returned (.int .i64 2) ∧ ∃ m, w' = w.drewN m := by
  have HS := Lib.hid hs
  clear hs
  by_cases hc : HcP p e
  · have HN := Lib.hid (show ¬ ∀ i, i < M → (ln i : Int) = e ∧ Within (G i) (ln i) 1000 from fun h' => h ⟨hc, h'⟩)
    obtain ⟨P, E, rfl, rfl, hp, h1, h2, hd⟩ := hc.nat
    have HP := Lib.hid hp
    have HD := Lib.hid hd
    clear hp hd h hc
    go_enter Try.func77, Try.ntmps77
    go_wp2_with (go_at_call 63; refine (l06Code_yes P E HP.out h1 h2 HD.out _ (o := false) (Sl.nil _ 0 0 (Nat.zero_le _) (fun _ => 0)) (fun j hj => absurd hj (Nat.not_lt_zero _))).mono ?_; rintro r w1 ⟨rfl, m1, rfl⟩)
    go_loopw [8] (fun s8 wr => ∃ i : Nat, i ≤ M ∧ s8 = .int .i64 (i : Int) ∧ (∀ j, j < i → (ln j : Int) = (E : Int) ∧ Within (G j) (ln j) 1000) ∧ ∃ m, wr = w.drewN m) (fun s8 _ => M - (intOf s8).toNat)
    case atStart => exact ⟨0, Nat.zero_le _, rfl, fun j hj => absurd hj (Nat.not_lt_zero _), _, rfl⟩
    case round =>
      obtain ⟨i, hi, rfl, hdone, m, rfl⟩ := hrel
      have HDN := Lib.hid hdone; clear hdone
      by_cases hlt : i < M
      · obtain ⟨hcell, o, lo, hi2, hsl⟩ := (HS.out.drewN m) i hlt
        obtain ⟨a, cap1, hu⟩ := hsl.shape
        have hm := hsl.len
        unfold maxLen at hm
        rw [hu] at hcell hsl
        have HSL := Lib.hid hsl
        clear hsl hu
        by_cases hln : ln i = E
        · rw [hln] at hcell HSL
          have HLN := Lib.hid hln
          clear hln hm
          go_wp2
          go_loopw [9] (fun s9 wq => ∃ k : Nat, k ≤ E ∧ s9 = .int .i64 (k : Int) ∧ Within (G i) k 1000 ∧ ∃ m, wq = w.drewN m) (fun s9 _ => E - (intOf s9).toNat)
          case atStart => exact ⟨0, Nat.zero_le _, rfl, fun j hj => absurd hj (Nat.not_lt_zero _), _, rfl⟩
          case round =>
            obtain ⟨k, hk, rfl, hwk, m2, rfl⟩ := hrel
            have HK := Lib.hid hwk; clear hwk
            have hcell2 : (w.drewN m2).cell? ⟨g, i, none⟩ = some (.slice a E cap1) := hcell
            by_cases hltk : k < E
            · obtain ⟨g1, off, cap', hv, _, _, _, _, hc, _⟩ := HSL.out.at (by omega)
              obtain ⟨rfl, rfl⟩ : a = some ⟨g1, off, none⟩ ∧ cap1 = cap' := by cases hv; exact ⟨rfl, rfl⟩
              clear hv
              have hck : (w.drewN m2).cell? ⟨g1, off + k, none⟩ = some (.int .i64 (G i k)) := hc k hltk
              clear hc
              by_cases hw : -1000 ≤ G i k ∧ G i k ≤ 1000
              · obtain ⟨hw1, hw2⟩ := hw
                go_wp2_with (go_at_call 67; refine (l01In_yes _ _ _ _ (by omega) (by omega)).mono ?_; rintro r w' ⟨rfl, rfl⟩)
                go_roundw
                case rel => exact ⟨k + 1, by omega, by go_num, fun j hj => by
                  by_cases e : j = k
                  · subst e; exact ⟨hw1, hw2⟩
                  · exact HK.out j (by omega), _, rfl⟩
                case measure => simp [intOf]; omega
              · have HW' := Lib.hid (show G i k < -1000 ∨ 1000 < G i k by omega)
                clear hw
                go_wp2_with (go_at_call 67; refine (l01In_no _ _ _ _ HW'.out).mono ?_; rintro r w' ⟨rfl, rfl⟩)
                go_ret
                exact ⟨rfl, _, rfl⟩
            · obtain rfl : k = E := by omega
              go_wp2
              go_roundw
              case rel => exact ⟨i + 1, by omega, by go_num, fun j hj => by
                by_cases e : j = i
                · subst e; exact ⟨by rw [HLN.out], by rw [HLN.out]; exact HK.out⟩
                · exact HDN.out j (by omega), _, rfl⟩
              case measure => simp [intOf]; omega
        · have hlb : ((ln i : Int) != (E : Int)) = true := by rw [bne_iff_ne]; omega
          clear hln
          go_wp2
          go_ret
          exact ⟨rfl, _, rfl⟩
      · exact absurd (fun j hj => HDN.out j (by omega)) HN.out
  · have H := Lib.hid (show ¬ (HcP p e ∧ ∀ j, j < 0 → 0 ≤ (fun _ => (0 : Int)) j ∧ (fun _ => (0 : Int)) j < e) from fun h' => hc h'.1)
    clear h hc
    go_enter Try.func77, Try.ntmps77
    go_wp2_with (go_at_call 63; refine (l06Code_no p e _ (o := false) (Sl.nil _ 0 0 (Nat.zero_le _) (fun _ => 0)) H.out).mono ?_; rintro r w1 ⟨rfl, m1, rfl⟩)
    go_ret
    exact ⟨rfl, _, rfl⟩
end
end Go.Proofs.Ytaipaggaodnfkaa
