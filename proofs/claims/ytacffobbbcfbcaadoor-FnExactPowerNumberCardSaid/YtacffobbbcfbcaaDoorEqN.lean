/- Power numbers, of the program. -/
import Derived.Test.YtacffobbbcfbcaaDoorEqH
namespace Go.Proofs.YtacffobbbcfbcaaDoor
open Go.RowKit Go.ChangeShapes Go.Sort
set_option linter.unusedVariables false
set_option linter.unusedSimpArgs false
set_option maxRecDepth 100000

/-- 1 at the sums of s powers. -/
def clN (p k : Nat) : Nat → Nat → Int
  | 0 => e0Z
  | s + 1 => fun b => min (wfT p (vN p 1 k) (clN p k s) 0 p b) 1
theorem clN_bd {p k : Nat} (h : 1 ≤ p) : ∀ s b, b < p → 0 ≤ clN p k s b ∧ clN p k s b ≤ 1
  | 0, b, _ => by show 0 ≤ e0Z b ∧ e0Z b ≤ 1; unfold e0Z; split <;> omega
  | s + 1, b, hb => by
    have h2 := wfT_bd (p := p) (v := vN p 1 k) (c := clN p k s) (B := 1) (by omega) (fun t ht => clN_bd (k := k) h s t ht) 0 p b (fun x _ => vN_lt h _ _ _) hb
    show 0 ≤ min _ 1 ∧ min _ 1 ≤ 1
    omega
theorem clN_pos {p k s b x : Nat} (h : 1 ≤ p) (hb : b < p) (hx : x < p) (hc : 0 < clN p k s ((b + (p - vN p 1 k x)) % p)) : clN p k (s + 1) b = 1 := by
  have hn : ∀ i, i < p → 0 ≤ (if 0 ≤ i then trT p (vN p 1 k i) (clN p k s) p b else 0) := fun i hi => by
    rw [if_pos (Nat.zero_le _), trT_eq _ (vN_lt h _ _ _) hb]
    exact (clN_bd h s _ (Nat.mod_lt _ (by omega))).1
  have g : 1 ≤ wfT p (vN p 1 k) (clN p k s) 0 p b := by
    unfold wfT
    refine Int.le_trans ?_ (smN_ge hx hn)
    rw [if_pos (Nat.zero_le _), trT_eq _ (vN_lt h _ _ _) hb]
    omega
  show min _ 1 = 1
  omega
theorem clN_zero {p k s b : Nat} (h : 1 ≤ p) (hb : b < p) (hc : ∀ x, x < p → clN p k s ((b + (p - vN p 1 k x)) % p) = 0) : clN p k (s + 1) b = 0 := by
  have g : wfT p (vN p 1 k) (clN p k s) 0 p b = 0 := by
    unfold wfT
    refine (smN_congr (fun x hx => ?_)).trans (smN_zero p)
    rw [if_pos (Nat.zero_le _), trT_eq _ (vN_lt h _ _ _) hb, hc x hx]
  show min (wfT p (vN p 1 k) (clN p k s) 0 p b) 1 = 0
  rw [g]; rfl
/-- All numbers up to s are sums of s powers. -/
theorem clN_up {p k : Nat} (hp : 2 ≤ p) (hk : 1 ≤ k) : ∀ s b, b ≤ s → b < p → clN p k s b = 1
  | 0, b, h, _ => by
    obtain rfl : b = 0 := by omega
    rfl
  | s + 1, b, h, hb => by
    rcases Nat.lt_or_ge s b with g | g
    · obtain rfl : b = s + 1 := by omega
      refine clN_pos (x := 1) (by omega) hb (by omega) ?_
      rw [vN_one hp, pwr_1 hp, show s + 1 + (p - 1) = s + p by omega, Nat.add_mod_right, Nat.mod_eq_of_lt (by omega), clN_up hp hk s s (Nat.le_refl _) (by omega)]
      decide
    · refine clN_pos (x := 0) (by omega) hb (by omega) ?_
      rw [vN_zero hk, Nat.sub_zero, Nat.add_mod_right, Nat.mod_eq_of_lt hb, clN_up hp hk s b g hb]
      decide
def Full (p k s : Nat) : Prop := ∀ b, b < p → clN p k s b = 1
/-- s is the power number. -/
def PnP (p k s : Nat) : Prop := 1 ≤ s ∧ s ≤ p - 1 ∧ Full p k s ∧ ∀ t, t < s → ¬ Full p k t
theorem pn_ex {p k : Nat} (hp : 2 ≤ p) (hk : 1 ≤ k) : ∃ s, PnP p k s := by
  have h0 : ¬ Full p k 0 := fun h => by
    have : e0Z 1 = 1 := h 1 (by omega)
    exact absurd this (by decide)
  have hl : Full p k (p - 1) := fun b hb => clN_up hp hk (p - 1) b (by omega) hb
  have h : ∀ m, m ≤ p - 1 → (∃ s, PnP p k s) ∨ ∀ t, t ≤ m → ¬ Full p k t := by
    intro m
    induction m with
    | zero => exact fun _ => .inr (fun t ht => by obtain rfl : t = 0 := by omega
                                                  exact h0)
    | succ m ih =>
      intro hm
      rcases ih (by omega) with h | h
      · exact .inl h
      · rcases Classical.em (Full p k (m + 1)) with g | g
        · exact .inl ⟨m + 1, by omega, hm, g, fun t ht => h t (by omega)⟩
        · exact .inr (fun t ht => by
            rcases Nat.lt_or_ge m t with q | q
            · obtain rfl : t = m + 1 := by omega
              exact g
            · exact h t q)
  rcases h (p - 1) (Nat.le_refl _) with h | h
  · exact h
  · exact absurd hl (h (p - 1) (Nat.le_refl _))
section
variable {o : Bool} {lo hi : Nat} {v : Value} {n : Nat} {f : Nat → Int}
/-- The least of the first m numbers. -/
def mnT (f : Nat → Int) : Nat → Int
  | 0 => f 0
  | m + 1 => min (mnT f m) (f (m + 1))
theorem mnT_le {f : Nat → Int} : ∀ m j, j ≤ m → mnT f m ≤ f j
  | 0, j, h => by obtain rfl : j = 0 := by omega
                  exact Int.le_refl _
  | m + 1, j, h => by
    show min _ _ ≤ _
    rcases Nat.lt_or_ge m j with g | g
    · obtain rfl : j = m + 1 := by omega
      omega
    · have := mnT_le (f := f) m j g
      omega
theorem mnT_in {f : Nat → Int} : ∀ m, ∃ j, j ≤ m ∧ mnT f m = f j
  | 0 => ⟨0, Nat.le_refl _, rfl⟩
  | m + 1 => by
    obtain ⟨j, hj, e⟩ := mnT_in (f := f) m
    rcases Int.le_total (mnT f m) (f (m + 1)) with g | g
    · exact ⟨j, by omega, by show min _ _ = _; rw [Int.min_eq_left g, e]⟩
    · exact ⟨m + 1, Nat.le_refl _, by show min _ _ = _; rw [Int.min_eq_right g]⟩
set_option maxHeartbeats 1000000 in
theorem Min_any (w : World) (h1 : 1 ≤ n) (hn : n ≤ 1000) (hs : Sl o w lo hi v n f) (hf : ∀ j, j < n → 0 ≤ f j ∧ f j ≤ 1) :
    Calls Tryd.prog 91 #[v] w fun r w' => r = .returned (.int .i64 (mnT f (n - 1))) ∧ w = w' := by
  obtain ⟨g, off, cap, rfl, _, _, _, _, hc, _⟩ := hs.at (by omega)
  have HC := Lib.hid hc
  have HF := Lib.hid hf
  have h0 := hc 0 (by omega)
  rw [Nat.add_zero] at h0
  have hn0 : ¬ (n : Int) < 1 := by omega
  have hpos : 0 < n := by omega
  clear hs hc hf
  go_enter Tryd.func91, Tryd.ntmps91
  go_wp2
  go_loopw [3, 4] (fun s3 s4 wr => ∃ m : Nat, m + 1 ≤ n ∧ s3 = .int .i64 (mnT f m) ∧ s4 = .int .i64 ((m : Int) + 1) ∧ wr = w) (fun _ s4 _ => n + 1 - (intOf s4).toNat)
  case atStart => exact ⟨0, by omega, rfl, by go_num, rfl⟩
  case round =>
    obtain ⟨m, hm, rfl, rfl, rfl⟩ := hrel
    by_cases hlt : m + 1 < n
    · have hcm := HC.out (m + 1) hlt
      have e : (m : Int) + 1 = ((m + 1 : Nat) : Int) := by omega
      rw [e]
      have HS := Lib.hid (show mnT f (m + 1) = min (mnT f m) (f (m + 1)) from rfl)
      obtain ⟨j, hj, ej⟩ := mnT_in (f := f) m
      have b1 := HF.out j (by omega)
      have b2 := HF.out (m + 1) hlt
      rw [← ej] at b1
      obtain ⟨y, hy⟩ : ∃ y, f (m + 1) = y := ⟨_, rfl⟩
      rw [hy] at hcm b2 HS
      obtain ⟨z, hz⟩ : ∃ z, mnT f m = z := ⟨_, rfl⟩
      rw [hz] at b1 HS ⊢
      clear hy hz ej e
      rcases Int.lt_or_le y z with gl | gl
      · have hmn : min z y = y := Int.min_eq_right (Int.le_of_lt gl)
        rw [hmn] at HS
        go_wp2
        go_roundw
        case rel => exact ⟨m + 1, by omega, by rw [HS.out], by go_num, by first | rfl | trivial⟩
        case measure => simp [intOf]; omega
      · have hmn : min z y = z := Int.min_eq_left gl
        rw [hmn] at HS
        go_wp2
        go_roundw
        case rel => exact ⟨m + 1, by omega, by rw [HS.out], by go_num, by first | rfl | trivial⟩
        case measure => simp [intOf]; omega
    · obtain rfl : n = m + 1 := by omega
      go_wp2
      go_ret
      exact ⟨rfl, rfl⟩
end
theorem withForm_power1 {o : Bool} {lo hi : Nat} {v : Value} {c : Nat → Int} (p k : Nat) (hp : 2 ≤ p) (hp2 : p ≤ 61) (hk : k ≤ 60) (w : World) (hs : Sl o w lo hi v p c) (hc : ∀ j, j < p → 0 ≤ c j ∧ c j ≤ 13845841) :
    Calls Tryd.prog 92 #[v, .agg #[.int .i64 1, .int .i64 (k : Int)], .int .i64 0] w fun r w' => r = .returned (.slice (some ⟨w.heap.size + 1, 0, none⟩) p p) ∧ Sl true w' (w.heap.size + 1) (w.heap.size + 2) (.slice (some ⟨w.heap.size + 1, 0, none⟩) p p) p (wfT p (vN p 1 k) c 0 p) ∧ Below w.heap.size w w' := by
  have h := withForm_power0 p 1 k hp hp2 (by omega) hk w hs hc
  rw [show ((1 : Nat) : Int) = 1 from rfl] at h
  exact h
set_option maxHeartbeats 4000000 in
theorem PowerNumber_cl_ok (b0 b1 p k s : Nat) (hp : primeN p = true) (h1 : 1 ≤ k) (h2 : k ≤ 60) (hP : PnP p k s) (w : World) (x0 : Box w b0 [.int .i64 (p : Int)]) (x1 : Box w b1 [.int .i64 (k : Int)]) :
    Calls Tryd.prog 89 #[.pointer (some ⟨b0, 0, none⟩), .pointer (some ⟨b1, 0, none⟩)] w fun e w' => e = .returned (.int .i64 (s : Int)) ∧ Below w.heap.size w w' := by
  have hbd := primeN_bd hp
  have HP := Lib.hid hp
  obtain ⟨hs1, hs2, hfull, hleast⟩ := hP
  have HM1 := Lib.hid (show mnT (clN p k s) (p - 1) = 1 by
    obtain ⟨j, hj, e⟩ := mnT_in (f := clN p k s) (p - 1)
    rw [e]; exact hfull j (by omega))
  have HM0 := Lib.hid (show ∀ c, c < s → mnT (clN p k c) (p - 1) = 0 from fun c hc => by
    obtain ⟨b, hb⟩ : ∃ b, ¬ (b < p → clN p k c b = 1) := Classical.not_forall.1 (hleast c hc)
    have hbp : b < p := by
      rcases Nat.lt_or_ge b p with g | g
      · exact g
      · exact absurd (fun q => absurd q (by omega)) hb
    have hne : clN p k c b ≠ 1 := fun q => hb (fun _ => q)
    have hbb := clN_bd (k := k) (show 1 ≤ p by omega) c b hbp
    have hle := mnT_le (f := clN p k c) (p - 1) b (by omega)
    obtain ⟨j, hj, e⟩ := mnT_in (f := clN p k c) (p - 1)
    have hjb := clN_bd (k := k) (show 1 ≤ p by omega) c j (by omega)
    omega)
  have HCB := Lib.hid (fun c j (hj : j < p) => clN_bd (k := k) (show 1 ≤ p by omega) c j hj)
  have c0 := x0.c0
  have c1 := x1.c0
  have X0 := Lib.hid x0
  clear hp hfull hleast x0 x1
  go_enter Tryd.func89, Tryd.ntmps89
  go_wp2_with (first
    | (go_at_call 78; refine (powerOf_ok p k HP.out h1 h2 _).mono ?_; rintro e w1 ⟨rfl, bl1⟩; have bx := Box.made w1 #[.int .i64 1, .int .i64 (k : Int)] 76 [.int .i64 1, .int .i64 (k : Int)] (fun j v h => by simpa using h); have al1 := (Below.refl w1.heap.size w1).alloc (Nat.le_refl _) (.cells #[.int .i64 1, .int .i64 (k : Int)] 76); have d0 := ((X0.out.keep bl1).keep al1).c0; have BL1 := bl1.trans (al1.mono bl1.size))
    | (go_at_call 90; refine (emptySum_any p (by omega) hbd.2 _).mono ?_; rintro e w2 ⟨rfl, q2, bl2, hz2⟩; have bx2 := bx.keep bl2))
  have hsz1 := bl1.size
  have BL2 := BL1.trans (bl2.mono (by simp only [World.size_alloc]; omega))
  simp only [World.size_alloc] at q2 hz2
  have hw1 := bl1.size
  obtain ⟨D, hD⟩ : ∃ D, w1.heap.size = D := ⟨_, rfl⟩
  try rw [hD] at bx2 q2 hz2 hw1
  try rw [hD]
  have Q2 := Lib.hid q2
  have BX2 := Lib.hid bx2
  have B2 := Lib.hid BL2
  have hDG : D < w2.heap.size := bx2.1
  clear q2 bx2 BL2 bx al1 d0 BL1 bl1 bl2 X0 hD hsz1
  go_loopw [4, 5] (fun s4 s5 wr => ∃ c G : Nat, c ≤ s ∧ s4 = .slice (some ⟨G, 0, none⟩) p p ∧ s5 = .int .i64 (c : Int) ∧ D + 1 ≤ G ∧ Sl true wr G (G + 1) (.slice (some ⟨G, 0, none⟩) p p) p (clN p k c) ∧ Box wr D [.int .i64 1, .int .i64 (k : Int)] ∧ Below w.heap.size w wr) (fun _ s5 _ => s - (intOf s5).toNat)
  case atStart => exact ⟨0, D + 1, Nat.zero_le _, by first | rfl | simp, rfl, Nat.le_refl _, Q2.out, BX2.out, B2.out⟩
  case round =>
    clear Q2 BX2 B2
    obtain ⟨c, G, hc, rfl, rfl, hG, hq, hbx, hbl⟩ := hrel
    have HQ := Lib.hid hq
    have hqs := hq.size
    have HBX := Lib.hid hbx
    have HB := Lib.hid hbl
    have d0 := hbx.2.1 0 _ rfl
    have d1 := hbx.2.1 1 _ rfl
    clear hq hbx hbl
    by_cases hlt : c < s
    · have hM := HM0.out c hlt
      go_wp2_with (first
        | (go_at_call 91; refine (Min_any _ (by omega) (by omega) HQ.out (fun j hj => HCB.out c j hj)).mono ?_; rw [hM]; rintro e w3 ⟨rfl, rfl⟩)
        | (go_at_call 92; refine (withForm_power1 p k (by omega) hbd.2 h2 _ HQ.out (fun j hj => by have := HCB.out c j hj; omega)).mono ?_; rintro e w4 ⟨rfl, q4, bl4⟩))
      have hsw := bl4.size
      have HBX4 := Lib.hid (HBX.out.keep bl4)
      have HB4 := Lib.hid (HB.out.trans (bl4.mono HB.out.size))
      have Q4 := Lib.hid q4
      have hq4 := q4.size
      obtain ⟨N, hN⟩ : ∃ N, wr.heap.size + 1 = N := ⟨_, rfl⟩
      have hN2 : wr.heap.size + 2 = N + 1 := by omega
      rw [hN, hN2] at Q4
      rw [hN]
      have hDN : D + 1 ≤ N := by omega
      have hwN : w.heap.size ≤ N := by have := HB.out.size; omega
      rw [hN2] at hq4
      clear q4 bl4 hM d0 d1 hN hN2
      go_loopw [21] (fun s21 wx => ∃ i : Nat, i ≤ p ∧ s21 = .int .i64 (i : Int) ∧ Sl true wx N (N + 1) (.slice (some ⟨N, 0, none⟩) p p) p (fun j => if j < i then clN p k (c + 1) j else wfT p (vN p 1 k) (clN p k c) 0 p j) ∧ Frame N (N + 1) w4 wx) (fun s21 _ => p - (intOf s21).toNat)
      case atStart => exact ⟨0, by omega, rfl, Q4.out.congr (fun j hj => by rw [if_neg (by omega)]), Frame.refl _ _ _⟩
      case round =>
        clear Q4
        obtain ⟨i, hi', rfl, hq, hfr⟩ := hrel
        have HQ := Lib.hid hq
        have HF := Lib.hid hfr
        by_cases hip : i < p
        · have hci := (hq.known (by omega)).2.2.2.1 i hip
          rw [Nat.zero_add, if_neg (by omega)] at hci
          have hfi := (hq.known (by omega)).2.2.2.2 rfl i
          have HE := Lib.hid (show clN p k (c + 1) i = min (wfT p (vN p 1 k) (clN p k c) 0 p i) 1 from rfl)
          have hwb := wfT_bd (p := p) (v := vN p 1 k) (c := clN p k c) (B := 1) (by omega) (fun t ht => HCB.out c t ht) 0 p i (fun x _ => vN_lt (by omega) _ _ _) hip
          obtain ⟨y, hy⟩ : ∃ y, wfT p (vN p 1 k) (clN p k c) 0 p i = y := ⟨_, rfl⟩
          rw [hy] at hci HE hwb
          clear hq hfr hy
          rcases Int.lt_or_le 1 y with gl | gl
          · have hmn : min y 1 = 1 := Int.min_eq_right (Int.le_of_lt gl)
            rw [hmn] at HE
            go_wp2
            go_roundw
            case rel => exact ⟨i + 1, by omega, by go_num, (HQ.out.store0 hip (x := 1) (by unfold inR; omega)).congr (fun j hj => by
              by_cases e : j = i
              · subst e; rw [if_pos rfl, if_pos (by omega), HE.out]
              · by_cases e2 : j < i
                · rw [if_neg e, if_pos e2, if_pos (by omega)]
                · rw [if_neg e, if_neg e2, if_neg (by omega)]), HF.out.setCell (p := ⟨N, i, none⟩) (Nat.le_refl _) (Nat.lt_succ_self _) _⟩
            case measure => simp [intOf]; omega
          · have hmn : min y 1 = y := Int.min_eq_left gl
            rw [hmn] at HE
            go_wp2
            go_roundw
            case rel => exact ⟨i + 1, by omega, by go_num, (HQ.out.store0 hip (x := y) (by unfold inR; omega)).congr (fun j hj => by
              by_cases e : j = i
              · subst e; rw [if_pos rfl, if_pos (by omega), HE.out]
              · by_cases e2 : j < i
                · rw [if_neg e, if_pos e2, if_pos (by omega)]
                · rw [if_neg e, if_neg e2, if_neg (by omega)]), HF.out.setCell (p := ⟨N, i, none⟩) (Nat.le_refl _) (Nat.lt_succ_self _) _⟩
            case measure => simp [intOf]; omega
        · obtain rfl : i = p := by omega
          go_wp2
          go_roundw
          case rel => exact ⟨c + 1, N, by omega, by first | rfl | simp, by go_num, hDN, HQ.out.congr (fun j hj => by rw [if_pos hj]), HBX4.out.keepF HF.out (by omega), HB4.out.trans (HF.out.below (B := w.heap.size) hwN HB4.out.size)⟩
          case measure => simp [intOf]; omega
    · obtain rfl : c = s := by omega
      have hM := HM1.out
      go_wp2_with (go_at_call 91; refine (Min_any _ (by omega) (by omega) HQ.out (fun j hj => HCB.out c j hj)).mono ?_; rw [hM]; rintro e w3 ⟨rfl, rfl⟩)
      go_ret
      exact ⟨rfl, HB.out⟩
set_option maxHeartbeats 2000000 in
theorem PowerNumber_cl_no (b0 b1 : Nat) (p k : Int) (hk : inR k) (h : ¬ PkP p k) (w : World) (ad : Addr) (hG : Gat w ad) (x0 : Box w b0 [.int .i64 p]) (x1 : Box w b1 [.int .i64 k]) :
    Calls Tryd.prog 89 #[.pointer (some ⟨b0, 0, none⟩), .pointer (some ⟨b1, 0, none⟩)] w fun e w' => e = .panicked [{ v := .iface 113 (.pointer (some ad)), recovered := false }] ∧ Below w.heap.size w w' := by
  have H := Lib.hid h
  have HG := Lib.hid hG
  have c0 := x0.c0
  have c1 := x1.c0
  clear h hG
  go_enter Tryd.func89, Tryd.ntmps89
  go_wp2_with (go_at_call 78; refine (powerOf_no p k hk H.out _ ad HG.out).mono ?_; rintro e w1 ⟨rfl, BL1⟩)
  first | exact ⟨rfl, BL1⟩ | exact ⟨rfl, rfl, BL1⟩

set_option maxHeartbeats 2000000 in
theorem PowerNumber_impl_ok (p k s : Nat) (hp : primeN p = true) (h1 : 1 ≤ k) (h2 : k ≤ 60) (hP : PnP p k s) (w : World) :
    Calls Tryd.prog 45 #[.int .i64 (p : Int), .int .i64 (k : Int)] w fun e w' => e = .returned (.tuple #[.int .i64 (s : Int), .int .i64 0]) ∧ Below w.heap.size w w' := by
  have ST := (((((St.start w).alloc (.cells #[.int .i64 (p : Int)] 2)).addBox w.heap.size [.int .i64 (p : Int)] (Box.made _ _ _ _ (fun j v h => by simpa using h))).alloc (.cells #[.int .i64 (k : Int)] 2)).addBox (w.heap.size + 1) [.int .i64 (k : Int)] (Box.new _ _ _ _ (by simp)))
  have hz : w.heap.size ≤ ((w.alloc (.cells #[.int .i64 (p : Int)] 2)).alloc (.cells #[.int .i64 (k : Int)] 2)).heap.size := ST.1.size
  have bx0 := (ST.alloc (.cells #[.int .i64 0] 2)).box 1 (w.heap.size, [.int .i64 (p : Int)]) rfl
  have bx1 := (ST.alloc (.cells #[.int .i64 0] 2)).box 0 (w.heap.size + 1, [.int .i64 (k : Int)]) rfl
  have hmf : ∀ (fn : Fn) (first cap : Array Value) (w : World), (Instr.makeFunc fn first cap).run Tryd.prog w = .ok (.func fn first cap) w := fun _ _ _ _ => rfl
  obtain ⟨W, hW⟩ : ∃ W, ((w.alloc (.cells #[.int .i64 (p : Int)] 2)).alloc (.cells #[.int .i64 (k : Int)] 2)) = W := ⟨_, rfl⟩
  have hst := ST.1
  rw [hW] at hz hst bx0 bx1
  have HC := Lib.hid ((doorI_PowerNumber_ok (w.heap.size) (w.heap.size + 1) W ((s : Int)) ((PowerNumber_cl_ok (w.heap.size) (w.heap.size + 1) p k s hp h1 h2 hP _ bx0 bx1).mono (fun e w' ⟨he, hb⟩ => ⟨he, hb.mono (by simp)⟩))))
  clear ST bx0 bx1
  go_enter Tryd.func45, Tryd.ntmps45
  go_wp2_with fail
  try simp only [World.size_alloc]
  try rw [hW]
  go_wp2_with (go_at_call 57; refine HC.out.mono ?_; rintro e w1 ⟨rfl, b1⟩)
  have BB := hst.trans (b1.mono hz)
  go_ret2
  exact ⟨rfl, BB⟩

set_option maxHeartbeats 2000000 in
theorem PowerNumber_impl_no (p k : Int) (hk : inR k) (h : ¬ PkP p k) (w : World) (ad : Addr) (hG : Gat w ad) :
    Calls Tryd.prog 45 #[.int .i64 (p : Int), .int .i64 (k : Int)] w fun e w' => e = .returned (.tuple #[.int .i64 0, .int .i64 2]) ∧ Below w.heap.size w w' := by
  have ST := (((((St.start w).alloc (.cells #[.int .i64 (p : Int)] 2)).addBox w.heap.size [.int .i64 (p : Int)] (Box.made _ _ _ _ (fun j v h => by simpa using h))).alloc (.cells #[.int .i64 (k : Int)] 2)).addBox (w.heap.size + 1) [.int .i64 (k : Int)] (Box.new _ _ _ _ (by simp)))
  have hz : w.heap.size ≤ ((w.alloc (.cells #[.int .i64 (p : Int)] 2)).alloc (.cells #[.int .i64 (k : Int)] 2)).heap.size := ST.1.size
  have bx0 := (ST.alloc (.cells #[.int .i64 0] 2)).box 1 (w.heap.size, [.int .i64 (p : Int)]) rfl
  have bx1 := (ST.alloc (.cells #[.int .i64 0] 2)).box 0 (w.heap.size + 1, [.int .i64 (k : Int)]) rfl
  have HG := (hG.keep ST.1).alloc (.cells #[.int .i64 0] 2)
  have hmf : ∀ (fn : Fn) (first cap : Array Value) (w : World), (Instr.makeFunc fn first cap).run Tryd.prog w = .ok (.func fn first cap) w := fun _ _ _ _ => rfl
  obtain ⟨W, hW⟩ : ∃ W, ((w.alloc (.cells #[.int .i64 (p : Int)] 2)).alloc (.cells #[.int .i64 (k : Int)] 2)) = W := ⟨_, rfl⟩
  have hst := ST.1
  rw [hW] at hz hst bx0 bx1 HG
  have HC := Lib.hid ((doorI_PowerNumber_no (w.heap.size) (w.heap.size + 1) W ad ((PowerNumber_cl_no (w.heap.size) (w.heap.size + 1) p k hk h _ ad HG bx0 bx1).mono (fun e w' ⟨he, hb⟩ => ⟨he, hb.mono (by simp)⟩))))
  clear ST bx0 bx1 HG hG
  go_enter Tryd.func45, Tryd.ntmps45
  go_wp2_with fail
  try simp only [World.size_alloc]
  try rw [hW]
  go_wp2_with (go_at_call 57; refine HC.out.mono ?_; rintro e w1 ⟨rfl, b1⟩)
  have BB := hst.trans (b1.mono hz)
  go_ret2
  exact ⟨rfl, BB⟩
end Go.Proofs.YtacffobbbcfbcaaDoor
